import Derived.Lib.AppendZeros
import Derived.Deep.CutBlock
import Derived.Deep.CutRange
import Derived.BigQuiet
import Derived.Test.YtkaipknkjocfiaaGreatZd3
set_option maxRecDepth 100000
set_option maxHeartbeats 64000000
namespace Go.Proofs.YtkaipknkjocfiaaGreat
open Go.RowKit
attribute [local go_sem ↓ high] TA oU
section
variable {V W W' : World} {b0 : Option Nat} {g : Nat} {l l' : By} {m m' e : Nat}
theorem WS.box(h:WS V b0 g l m e W)(hb:Below W.heap.size W W'):∃b,WS W' b g l m e W'/\ (∀q,W.heap.size<=q->q≠g/\ b≠some q)/\ ∀l' m' e' W'',WS W' b g l' m' e' W''->WS V b0 g l' m' e' W'':=by
 obtain⟨b,h1,h2⟩:=h.ww;have h3:=h1.on hb;refine⟨b,h3.begin,fun q hq=>⟨fun e=>by have:=h1.lt;omega,fun e=>by have:=h1.off q e;omega⟩,fun l' m' e' W'' k=> ?_⟩;obtain⟨b',k1,k2⟩:=k.ww;have hsz:=hb.size;refine⟨⟨b',k1,fun i hi=> ?_⟩,(h.tu.trans (WT.of_below (b:=none) hb) (fun _ e=>by cases e)).trans k.tu h2,h.lt,h.off⟩;rcases k2 i hi with h3|h3
 · exact h2 i h3
 · exact Or.inr (aA (aA h.tu.size hsz) h3)
theorem WS.blk(h:WS V b0 g l m e W){q:Nat}{t:TypeId}{cs:Array Value}(ha:fB V q t cs)(h1:q≠g)(h2:b0≠some q):fB W q t cs:=(h.tu.block q ha.lt h1 h2).trans ha
theorem WS.drew(h:WS V b0 g l m e W):WS V b0 g l m e W.drew:=h.on ⟨rfl,rfl,rfl,aj _,fun _ _=>rfl⟩
end
theorem TB{α:Type}(e:α->Nat):∀ (l:List α) (x:α),dK e (l++ [x])=eU (dK e l) (e x)
 | [],x=>by
  show(if e x=0 then 0 else e x)=_
  unfold eU dK;rw [if_pos rfl]
  split<;>omega
 |y::ys,x=>by
  show(if e y=0 then dK e (ys++ [x])else e y)=eU (if e y=0 then dK e ys else e y) (e x)
  rw [TB e ys x];by_cases h:e y=0
  · rw [if_pos h,if_pos h]
  · rw [if_neg h,if_neg h,wJ h]
theorem OE{α:Type}(e:α->Nat):∀ (l k:List α),dK e (l++k)=eU (dK e l) (dK e k)
 | [],k=>rfl
 |y::ys,k=>by
  show(if e y=0 then dK e (ys++k)else e y)=eU (if e y=0 then dK e ys else e y) (dK e k)
  rw [OE e ys k];by_cases h:e y=0
  · rw [if_pos h,if_pos h]
  · rw [if_neg h,if_neg h,wJ h]
theorem vN{α:Type}(e:α->Nat)(E:Nat)(l:List α)(k:Nat)(h:eU E (dK e (l.take k))≠0):eU E (dK e l)=eU E (dK e (l.take k)):=by
 have h1:dK e l=eU (dK e (l.take k)) (dK e (l.drop k)):=(by rw [<-OE,List.take_append_drop]);rw [h1];unfold eU at*;by_cases hE:E=0
 · rw [if_pos hE]at h⊢
   rw [if_pos hE,if_neg h]
 · rw [if_neg hE,if_neg hE]
theorem sU{α:Type}(f:α->By)(l:List α)(k:Nat)(h:k<l.length):(l.take (k+1)).flatMap f=(l.take k).flatMap f++f l[k]:=by
 rw [aO h,List.flatMap_append];simp
theorem vO{α:Type}(e:α->Nat)(l:List α)(k:Nat)(h:k<l.length):dK e (l.take (k+1))=eU (dK e (l.take k)) (e l[k]):=by
 rw [aO h,TB]
def cnt4(a b c d:Nat)(k:Nat):Nat:=if k=0 then a else if k=1 then b else if k=2 then c else d
theorem QG(q a i:Nat):(⟨q,a,none⟩:Addr).add i=⟨q,a+i,none⟩:=by
 unfold Addr.add;by_cases h0:i=0<;>simp [h0]
theorem DC{α:Type}(l:List α):dK (fun _:α=>0) l=0:=VF l fun _ _=>rfl
section
variable {V : World} {b0 : Option Nat} {g : Nat} {l : By} {m e : Nat}
theorem QH(x:GV)(W0:World)(h:WS V b0 g l m e W0)(hr:qI W0 g x)(hb:GsB x.g)(hnk:x.g.name.length<=1000000)(hm:m<=500000):Calls Tryz.prog 61 #[.pointer (some ⟨g,0,none⟩),.agg (vec 79 (aT x))] W0 (QE V b0 g (l++nZ x.g) (m+3000) (eU e (jX x.g))):=by
 obtain⟨V1,hV1⟩:=aqx (W0.alloc (.cells (vec 79 (aT x)) 63));have hB:Below W0.heap.size W0 V1:=(by rw [hV1];exact(aC _ _).alloc (aj _) _);have k1:aU V1 W0.heap.size 63 79 (aT x):=(by rw [hV1];exact aU.new W0 _ _ _);obtain⟨b,hS,hoff,hback⟩:=h.box hB;have hgl:=hr.below (hB.mono (Nat.le_of_lt h.ltW));have HW0:=ah hV1;have zX:Hid (jX x.g=eU (if jD x.g.name=true then 0 else 143) (eU (if Ij x.g.key=true then 0 else 144) (eU (if tX x.g=true then 0 else 142) (eU (dK (fun y=>jg (jr y)) x.g.wins) (dK (fun y=>jg (jv y)) x.g.cO))))):=ah (by
  rw [BD (e:=fun y=>jg (jr y)) (b:=jr) (n:=144) (fun _=>rfl) (by decide),BD (e:=fun y=>jg (jv y)) (b:=jv) (n:=144) (fun _=>rfl) (by decide)];unfold jX jg eU;cases jD x.g.name<;>cases Ij x.g.key<;>cases tX x.g<;>cases x.g.wins.any jr<;>cases x.g.cO.any jv<;>rfl)
 obtain⟨⟨nm,mu,off,ln,cp,en,dt,ky,wins,dG,cO,strs⟩,wv,dv,iv,sv⟩:=x;obtain⟨⟨A0,d0,ev0,r0,n0⟩,⟨A1,d1,ev1,r1,n1⟩,⟨A2,d2,ev2,r2,n2⟩,⟨A3,d3,ev3,r3,n3⟩⟩:=hgl;simp only at ev0 r0 n0 ev1 r1 n1 ev2 r2 n2 ev3 r3 n3 zX hnk;obtain⟨p1,p2,p3,p4,p5,p6,p7,p8,p9,p10⟩:=hb;simp only at p1 p2 p3 p4 p5 p6 p7 p8 p9 p10;obtain⟨N0,e0⟩:=aqx (wins.length);obtain⟨N1,e1⟩:=aqx (dG.length);obtain⟨N2,e2⟩:=aqx (cO.length);obtain⟨N3,e3⟩:=aqx (strs.length);rw [<-e0]at ev0 n0;rw [<-e1]at ev1 n1;rw [<-e2]at ev2 n2;rw [<-e3]at ev3 n3;subst ev0 ev1 ev2 ev3;obtain⟨q,hq⟩:=aqx (W0.heap.size);rw [<-hq]at k1 hoff;have OX:=ah hq;have HK:Hid (∀ (l':By) (m' e':Nat) (Y:World),WS V1 b g l' m' e' Y->aU Y q 63 79 (aT ⟨⟨nm,mu,off,ln,cp,en,dt,ky,wins,dG,cO,strs⟩,.slice A0 N0 d0,.slice A1 N1 d1,.slice A2 N2 d2,.slice A3 N3 d3⟩)):=ah (fun l' m' e' Y hs=>hs.arr k1 (hoff q (aj _)).1 (hoff q (aj _)).2);have HC:Hid (∀ (l':By) (m' e':Nat) (Y:World),WS V1 b g l' m' e' Y->Y.cell? ⟨q,0,none⟩=some (.string (strOf nm))/\ Y.cell? ⟨q,1,none⟩=some (.bool mu)/\ Y.cell? ⟨q,2,none⟩=some (.int .u32 off)/\ Y.cell? ⟨q,3,none⟩=some (.int .u32 ln)/\ Y.cell? ⟨q,4,none⟩=some (.int .u32 cp)/\ Y.cell? ⟨q,5,none⟩=some (.int .u64 en)/\ Y.cell? ⟨q,6,none⟩=some (.int .u64 dt)/\ Y.cell? ⟨q,75,none⟩=some (.slice A0 N0 d0)/\ Y.cell? ⟨q,76,none⟩=some (.slice A1 N1 d1)/\ Y.cell? ⟨q,77,none⟩=some (.slice A2 N2 d2)/\ Y.cell? ⟨q,78,none⟩=some (.slice A3 N3 d3)):=ah (fun l' m' e' Y hs=>⟨(HK.out _ _ _ _ hs).cell (i:=0) (by decide),(HK.out _ _ _ _ hs).cell (i:=1) (by decide),(HK.out _ _ _ _ hs).cell (i:=2) (by decide),(HK.out _ _ _ _ hs).cell (i:=3) (by decide),(HK.out _ _ _ _ hs).cell (i:=4) (by decide),(HK.out _ _ _ _ hs).cell (i:=5) (by decide),(HK.out _ _ _ _ hs).cell (i:=6) (by decide),(HK.out _ _ _ _ hs).cell (i:=75) (by decide),(HK.out _ _ _ _ hs).cell (i:=76) (by decide),(HK.out _ _ _ _ hs).cell (i:=77) (by decide),(HK.out _ _ _ _ hs).cell (i:=78) (by decide)⟩);have HR:Hid (∀ (l':By) (m' e':Nat) (Y:World),WS V1 b g l' m' e' Y->bI 4 bG Y g A0 wins/\ bI 3 iC Y g A1 dG/\ bI 3 dV Y g A2 cO/\ bI 1 mP Y g A3 strs):=ah (fun l' m' e' Y hs=>⟨r0.below hs.below,r1.below hs.below,r2.below hs.below,r3.below hs.below⟩);have Io:=ah (ak e0 (ak e1 (ak e2 e3)));have Jl:=ah (ak p7 (ak p8 (ak p9 p10)))
 have HNB:=ah (ak n0 (ak n1 (ak n2 n3)));have Xa:=ah p6;obtain⟨cb,hcb⟩:=aqx (tX ⟨nm,mu,off,ln,cp,en,dt,ky,wins,dG,cO,strs⟩);have JL:Hid (cb=(decide (1<=N0)&&decide (N0<=16)&&decide (N1<=16)&&decide (N2<=64)&&decide (N3<=32))):=ah (by
  rw [hcb,e0,e1,e2,e3];unfold tX inB;simp only;rw [Bool.eq_iff_iff];simp only [Bool.and_eq_true,decide_eq_true_eq]
  omega)
 obtain⟨ek,hek⟩:=aqx (Ij ky);rw [<-hcb, <-hek]at zX;have HEK:=ah hek;obtain⟨Q,hQ⟩:=aqx (QE V b0 g (l++nZ ⟨nm,mu,off,ln,cp,en,dt,ky,wins,dG,cO,strs⟩) (m+3000) (eU e (jX ⟨nm,mu,off,ln,cp,en,dt,ky,wins,dG,cO,strs⟩)));have HQ:Hid (∀ (M E:Nat) (Y:World),M<=m+3000->E=eU (eU (eU (eU (eU e (if jD nm=true then 0 else 143)) (if ek=true then 0 else 144)) (if cb=true then 0 else 142)) (dK (fun y=>jg (jr y)) wins)) (dK (fun y=>jg (jv y)) cO)->WS V1 b g (l++nZ ⟨nm,mu,off,ln,cp,en,dt,ky,wins,dG,cO,strs⟩) M E Y->Q (.returned (.tuple #[])) Y):=ah (fun M E Y hM hE hs=>by
  rw [hQ];refine⟨rfl,(hback _ _ _ _ hs).any (fun _=>rfl) hM|>fun h=> ?_⟩;rw [zX.out, <-nH, <-nH, <-nH, <-nH, <-hE];exact h)
 rw [<-hQ];have Zg:Hid (nZ ⟨nm,mu,off,ln,cp,en,dt,ky,wins,dG,cO,strs⟩=qQ nm++(be 4 (xJ mu)++(be 4 off.toNat++(be 4 ln.toNat++(be 4 cp.toNat++(be 8 en.toNat++(be 8 dt.toNat++ky))))))++((be 2 N0++(be 2 N1++(be 2 N2++be 2 N3)))++(wins.flatMap jH++(dG.flatMap jL++(cO.flatMap jM++strs.flatMap pX))))):=ah (by rw [e0,e1,e2,e3];rfl);have HS:Hid (WS V1 b g l m e V1):=ah hS;have c2:IntKind.u64.wrap off=off:=(by rw [IntKind.wrap_u64];unfold rP at p1;omega);have c3:IntKind.u64.wrap ln=ln:=(by rw [IntKind.wrap_u64];unfold rP at p2;omega);have c4:IntKind.u64.wrap cp=cp:=(by rw [IntKind.wrap_u64];unfold rP at p3;omega);have HP:=ah (ak p1.1 (ak p2.1 (ak p3.1 (ak p4.1 (ak p5.1 (ak hnk hm))))));clear h hr hV1 hB k1 hS hoff hback hq hcb hek hQ p1 p2 p3 p4 p5 p6 p7 p8 p9 p10 r0 r1 r2 r3 e0 e1 e2 e3 n0 n1 n2 n3 hnk hm;go_enter Tryz.func61,Tryz.ntmps61;go_upto_region 1 with fail
 rw [show W0.alloc (.cells (vec 79 (aT ⟨⟨nm,mu,off,ln,cp,en,dt,ky,wins,dG,cO,strs⟩,.slice A0 N0 d0,.slice A1 N1 d1,.slice A2 N2 d2,.slice A3 N3 d3⟩)) 63)=V1 from HW0.out.symm, <-OX.out];clear HW0 OX;have cx:=(HC.out _ _ _ _ HS.out).1;go_upto_region 2 with(go_at_call 102;refine(VH nm HP.out.2.2.2.2.2.1 (by have:=HP.out.2.2.2.2.2.2;omega) _ HS.out).mono ?_;rintro y w1 ⟨rfl,hs⟩;replace HS:=ah hs;clear hs)
 clear cx;have cx:=(HC.out _ _ _ _ HS.out).2.1;go_upto_region 3 with(go_at_call 103;refine(G5 mu (by have:=HP.out.2.2.2.2.2.2;omega) _ HS.out).mono ?_;rintro y w1 ⟨rfl,hs⟩;replace HS:=ah hs;clear hs)
 clear cx;have cx:=(HC.out _ _ _ _ HS.out).2.2.1;go_upto_region 4 with(go_at_call 60;refine(fO off HP.out.1 4 (by decide) (by have:=HP.out.2.2.2.2.2.2;omega) _ HS.out).mono ?_;rintro y w1 ⟨rfl,hs⟩;replace HS:=ah hs;clear hs)
 clear cx;have cx:=(HC.out _ _ _ _ HS.out).2.2.2.1;go_upto_region 5 with(go_at_call 60;refine(fO ln HP.out.2.1 4 (by decide) (by have:=HP.out.2.2.2.2.2.2;omega) _ HS.out).mono ?_;rintro y w1 ⟨rfl,hs⟩;replace HS:=ah hs;clear hs)
 clear cx;have cx:=(HC.out _ _ _ _ HS.out).2.2.2.2.1;go_upto_region 6 with(go_at_call 60;refine(fO cp HP.out.2.2.1 4 (by decide) (by have:=HP.out.2.2.2.2.2.2;omega) _ HS.out).mono ?_;rintro y w1 ⟨rfl,hs⟩;replace HS:=ah hs;clear hs)
 clear cx;have cx:=(HC.out _ _ _ _ HS.out).2.2.2.2.2.1;go_upto_region 7 with(go_at_call 60;refine(fO en HP.out.2.2.2.1 8 (by decide) (by have:=HP.out.2.2.2.2.2.2;omega) _ HS.out).mono ?_;rintro y w1 ⟨rfl,hs⟩;replace HS:=ah hs;clear hs)
 clear cx;have cx:=(HC.out _ _ _ _ HS.out).2.2.2.2.2.2.1;go_upto_region 8 with(go_at_call 60;refine(fO dt HP.out.2.2.2.2.1 8 (by decide) (by have:=HP.out.2.2.2.2.2.2;omega) _ HS.out).mono ?_;rintro y w1 ⟨rfl,hs⟩;replace HS:=ah hs;clear hs)
 clear cx;obtain⟨LA,hLA⟩:=aqx (l++qQ nm++be 4 (xJ mu)++be 4 off.toNat++be 4 ln.toNat++be 4 cp.toNat++be 8 en.toNat++be 8 dt.toNat);obtain⟨EA,hEA⟩:=aqx (eU e (if jD nm=true then 0 else 143));replace HS:Hid (WS V1 b g LA (m+48) EA w1):=ah (by rw [hLA,hEA];exact HS.out);have Sr:=ah hLA;have HEA:=ah hEA;clear hLA hEA c2 c3 c4;have hkp:∀i,i<68->w1.cell? ((⟨q,7,none⟩:Addr).add i)=some (oM (kF ky) i):=fun i hi=>by
  rw [QG,(HK.out _ _ _ _ HS.out).cell (by omega),Nat.add_comm 7 i];show some (if i<68 then oM (kF ky) i else _)=_
  rw [if_pos hi]
 have hky:=Zf ky Xa.out ⟨q,7,none⟩ 68 (aj _) w1 (HK.out _ _ _ _ HS.out).lt hkp;obtain⟨kc,hkc⟩:∃kc:Nat,kc=if Ij ky=true then 0 else 80:=⟨_,rfl⟩
 have HKC:Hid (Calls Tryz.prog 104 #[.slice (some ⟨q,7,none⟩) 68 68] w1 fun y w2=>∃f:Nat->Value,y= .returned (.tuple #[.agg (vec 65 f),.int .i64 (kc:Int)])/\ (∀i,i<65->(f i).oneCell'=true)/\ Below w1.heap.size w1 w2):=ah (by rw [hkc];exact hky);have hkd:((kc:Int)==0)=ek:=by
  rw [hkc,HEK.out];cases Ij ky<;>rfl
 clear hkp hky hkc;go_upto_region 9 with(first
  |(go_at_call 104;refine HKC.out.mono ?_;rintro y w2 ⟨f,rfl,hf,hd⟩;replace HS:=ah (HS.out.on hd);have HF:=ah hf;clear hd hf)
  |((with_reducible refine aqy (.store _ _ _) ?_);refine bD rfl 162 _ _ rfl _ rfl _ rfl (aS (aU.new w2 _ _ _) f BG HF.out) ?_))
 obtain⟨w3,hw3⟩:=aqx ((w2.alloc (.cells (vec 65 (Dz 0 zb zb)) 162)).setRow w2.heap.size (vec 65 f));replace HS:Hid (WS V1 b g LA (m+48) EA w3):=ah (HS.out.on (by rw [hw3];exact bg ((aC _ _).alloc (aj _) _) (aj _) _));rw [<-hw3];clear hw3 HKC HF;go_upto_region 10 with(go_at_call 63;refine(nI ek 144 (by decide) _ HS.out).mono ?_;rintro y w1 ⟨rfl,hs⟩;replace HS:=ah hs;clear hs)
 clear hkd;obtain⟨Y0,hY0⟩:=aqx (w1.drew);replace HS:Hid (WS V1 b g LA (m+48) (eU EA (if ek=true then 0 else 144)) Y0):=ah (by rw [hY0];exact HS.out.drew);have HY0:=ah hY0;clear hY0;obtain⟨AL,cL,LL,-,k0,-,-,-,-,-,happ⟩:=HS.out.open;obtain⟨BL,dL,w2,hrun,⟨k3,k4⟩,hws⟩:=happ Y0 ⟨q,7,none⟩ ky 68 (LL.length+68) (by rw [Xa.out]) (aC _ _) (fun j u hu=>by
  have hj:j<68:=by
    have:=(List.getElem?_eq_some_iff.1 hu).1
    simpa [jF,Xa.out]using this
  rw [QG,(HK.out _ _ _ _ HS.out).cell (by omega),Nat.add_comm 7 j];show some (if j<68 then oM (kF ky) j else _)=_
  rw [if_pos hj, <-hu];simp [jF,oM,kF,Xa.out,hj]) (by have:=HP.out.2.2.2.2.2.2;rw [Xa.out];omega)
 rw [Xa.out]at hrun hws;obtain⟨NL,hNL⟩:=aqx (LL.length);obtain⟨NM,hNM⟩:=aqx (LL.length+68);rw [<-hNM]at hrun hws;rw [<-hNL]at hrun k0 k3;have BH:=ah hrun;have HK0:=ah k0;have Fj:=ah (ak k3 k4);replace HS:Hid (WS V1 b g (LA++ky) (m+48+68) (eU EA (if ek=true then 0 else 144)) (w2.setCell ⟨g,0,none⟩ (.slice BL NM dL))):=ah hws;clear happ hrun hws k0 k3 k4 hNL hNM;refine wp_region_held_drew (S:=fun Y=>True) (by kernel_rfl) trivial (fun hS=> ?_);refine tP 0 ?_;refine tP 1 ?_;refine tP 2 ?_;refine tP 3 ?_;refine tP 5 ?_;refine tP 6 ?_;refine oQ 4 fun K4 hK4=> ?_;rw [<-HY0.out];have k0:=HK0.out;go_simp;refine hK4 _ _ trivial (fun hS4=> ?_);clear k0 hK4 K4 hS;refine oQ 7 fun K7 hK7=> ?_;refine Lib.wp_append_run _ _ _ _ _ rfl (.slice AL NL cL) (.slice (some ⟨q,7,none⟩) 68 68) ?s1 ?s2 (.slice BL NM dL) w2 ?s3 ?_
 case s1=>rfl
 case s2=>rfl
 case s3=>(have h0:=BH.out;show(Builtin.append_ #[_,_] 78 _).run Tryz.prog _=_;exact h0)
 refine hK7 _ _ trivial (fun hS7=> ?_);clear hK7 K7 hS4;refine tP 8 ?_;refine tP 9 ?_;refine oQ 10 fun K10 hK10=> ?_;have k3:=Fj.out.1;have k4:=Fj.out.2;go_simp;refine hK10 _ _ trivial (fun eH=> ?_);clear k3 k4 hK10 K10 hS7;refine wpAnyH_done (by kernel_rfl) ?_ _;clear eH HY0 BH HK0 Fj;obtain⟨w4,hw4⟩:=aqx (w2.setCell ⟨g,0,none⟩ (.slice BL NM dL));rw [<-hw4]at HS⊢;clear hw4;obtain⟨EB,hEB⟩:=aqx (eU EA (if ek=true then 0 else 144));rw [<-hEB]at HS;have HEB:=ah hEB;clear hEB;go_upto_region 11 with fail
 go_cut []from 64 to 93 (fun wx=>Hid (WS V1 b g (LA++ky) (m+48+68) (eU EB (if cb=true then 0 else 142)) wx))
 case first=>
  have f8:=(HC.out _ _ _ _ HS.out).2.2.2.2.2.2.2.1;have f9:=(HC.out _ _ _ _ HS.out).2.2.2.2.2.2.2.2.1;have f10:=(HC.out _ _ _ _ HS.out).2.2.2.2.2.2.2.2.2.1;have f11:=(HC.out _ _ _ _ HS.out).2.2.2.2.2.2.2.2.2.2;have hcb:=JL.out;by_cases t0:1<=N0
  rotate_left
  · obtain rfl:cb=false:=by rw [hcb];simp;omega
    have z0:decide ((1:Int)<=(N0:Int))=false:=(by simp;omega);clear hcb t0;go_wp2_with(go_at_call 63;refine(nI false 142 (by decide) _ HS.out).mono ?_;rintro y w5 ⟨rfl,hs⟩;have VD:=ah hs;clear hs)
    go_meet
    exact VD
  by_cases t1:N0<=16
  rotate_left
  · obtain rfl:cb=false:=by rw [hcb];simp;omega
    have z0:decide ((1:Int)<=(N0:Int))=true:=(by simp;omega);have z1:decide ((N0:Int)<=16)=false:=(by simp;omega);clear hcb t0 t1;go_wp2_with(go_at_call 63;refine(nI false 142 (by decide) _ HS.out).mono ?_;rintro y w5 ⟨rfl,hs⟩;have VD:=ah hs;clear hs)
    go_meet
    exact VD
  by_cases t2:N1<=16
  rotate_left
  · obtain rfl:cb=false:=by rw [hcb];simp;omega
    have z0:decide ((1:Int)<=(N0:Int))=true:=(by simp;omega);have z1:decide ((N0:Int)<=16)=true:=(by simp;omega);have z2:decide ((N1:Int)<=16)=false:=(by simp;omega);clear hcb t0 t1 t2;go_wp2_with(go_at_call 63;refine(nI false 142 (by decide) _ HS.out).mono ?_;rintro y w5 ⟨rfl,hs⟩;have VD:=ah hs;clear hs)
    go_meet
    exact VD
  by_cases t3:N2<=64
  rotate_left
  · obtain rfl:cb=false:=by rw [hcb];simp;omega
    have z0:decide ((1:Int)<=(N0:Int))=true:=(by simp;omega);have z1:decide ((N0:Int)<=16)=true:=(by simp;omega);have z2:decide ((N1:Int)<=16)=true:=(by simp;omega);have z3:decide ((N2:Int)<=64)=false:=(by simp;omega);clear hcb t0 t1 t2 t3;go_wp2_with(go_at_call 63;refine(nI false 142 (by decide) _ HS.out).mono ?_;rintro y w5 ⟨rfl,hs⟩;have VD:=ah hs;clear hs)
    go_meet
    exact VD
  by_cases t4:N3<=32
  rotate_left
  · obtain rfl:cb=false:=by rw [hcb];simp;omega
    have z0:decide ((1:Int)<=(N0:Int))=true:=(by simp;omega);have z1:decide ((N0:Int)<=16)=true:=(by simp;omega);have z2:decide ((N1:Int)<=16)=true:=(by simp;omega);have z3:decide ((N2:Int)<=64)=true:=(by simp;omega);have z4:decide ((N3:Int)<=32)=false:=(by simp;omega);clear hcb t0 t1 t2 t3 t4;go_wp2_with(go_at_call 63;refine(nI false 142 (by decide) _ HS.out).mono ?_;rintro y w5 ⟨rfl,hs⟩;have VD:=ah hs;clear hs)
    go_meet
    exact VD
  obtain rfl:cb=true:=by rw [hcb];simp;omega
  have z0:decide ((1:Int)<=(N0:Int))=true:=(by simp;omega);have z1:decide ((N0:Int)<=16)=true:=(by simp;omega);have z2:decide ((N1:Int)<=16)=true:=(by simp;omega);have z3:decide ((N2:Int)<=64)=true:=(by simp;omega);have z4:decide ((N3:Int)<=32)=true:=(by simp;omega);clear hcb t0 t1 t2 t3 t4;go_wp2_with(go_at_call 63;refine(nI true 142 (by decide) _ HS.out).mono ?_;rintro y w5 ⟨rfl,hs⟩;have VD:=ah hs;clear hs)
  go_meet
  exact VD
 clear HS;obtain⟨w5,rfl⟩:=aqx wc;obtain⟨EC,hEC⟩:=aqx (eU EB (if cb=true then 0 else 142));rw [<-hEC]at hcut;have HS:=hcut;have pO:Hid (EC=0->(1<=N0/\ N0<=16)/\ N1<=16/\ N2<=64/\ N3<=32):=ah (fun h0=>by
  rw [hEC]at h0;have h1:=(gB h0).2;have h2:cb=true:=(by cases cb;cases h1;rfl);have h3:=JL.out;rw [h2]at h3;have h3:=h3.symm;simp only [Bool.and_eq_true,decide_eq_true_eq]at h3
  omega)
 have HEC:=ah hEC;clear hcut hEC JL;have f8:=(HC.out _ _ _ _ HS.out).2.2.2.2.2.2.2.1;have f9:=(HC.out _ _ _ _ HS.out).2.2.2.2.2.2.2.2.1;have f10:=(HC.out _ _ _ _ HS.out).2.2.2.2.2.2.2.2.2.1;have f11:=(HC.out _ _ _ _ HS.out).2.2.2.2.2.2.2.2.2.2;obtain⟨X,hX⟩:=aqx (w5.alloc (.cells #[.int .i64 (N0:Int),.int .i64 (N1:Int),.int .i64 (N2:Int),.int .i64 (N3:Int)] 3));have hbX:Below w5.heap.size w5 X:=(by rw [hX];exact(aC _ _).alloc (aj _) _);have hkX:fB X w5.heap.size 3 #[.int .i64 (N0:Int),.int .i64 (N1:Int),.int .i64 (N2:Int),.int .i64 (N3:Int)]:=(by rw [hX];exact fB.new _ _ _ rfl);obtain⟨b2,hS2,TD,Zh⟩:=HS.out.box hbX;obtain⟨rq,hrq⟩:=aqx (w5.heap.size);rw [<-hrq]at hkX TD;have HN4:Hid (∀ (l':By) (m' e':Nat) (Y:World),WS X b2 g l' m' e' Y->∀k,k<4->Y.cell? ⟨rq,k,none⟩=some (.int .i64 (cnt4 N0 N1 N2 N3 k:Nat))):=ah (fun l' m' e' Y hs k hk=>by
  have hh:=hs.blk hkX (TD rq (aj _)).1 (TD rq (aj _)).2;rcases(by omega:k=0∨k=1∨k=2∨k=3)with rfl|rfl|rfl|rfl
  · exact hh.cellAt 0 rfl
  · exact hh.cellAt 1 rfl
  · exact hh.cellAt 2 rfl
  · exact hh.cellAt 3 rfl)
 have aiF:=ah Zh;have HX:=ah hX;have HRQ:=ah hrq;have HS2:=ah hS2;obtain⟨bl4,aiG⟩:∃f:Nat->By,f=fun k=>(List.range k).flatMap fun j=>be 2 (cnt4 N0 N1 N2 N3 j):=⟨_,rfl⟩;have HBL:Hid ((bl4 0=[]/\ ∀k,bl4 (k+1)=bl4 k++be 2 (cnt4 N0 N1 N2 N3 k))/\ bl4 4=be 2 N0++(be 2 N1++(be 2 N2++be 2 N3))):=ah (by
  subst aiG;refine⟨⟨rfl,fun k=> ?_⟩,rfl⟩;show(List.range (k+1)).flatMap _=_
  rw [List.range_succ,List.flatMap_append]
  simp)
 clear hX hbX hkX hS2 TD Zh hrq aiG
 go_upto_block 0 with fail
 rw [<-HX.out, <-HRQ.out];clear HX HRQ f8 f9 f10 f11
 go_cut [7,108]from 109 to 116 (fun s7 aph wx=>Hid (WS V1 b g (LA++ky++bl4 4) (m+48+68+8) EC wx))
 case first=>
  go_wp2_with fail
  go_loopw [7,108] (fun _ j W=>∃k:Nat,k<=4/\ j= .int .i64 k/\ Hid (WS X b2 g (LA++ky++bl4 k) (m+48+68+2*k) EC W)) (fun _ j _=>4-(intOf j).toNat)
  case atStart=>exact⟨0,aB _,rfl,ah (HS2.out.any (fun _=>by rw [HBL.out.1.1,List.append_nil]) (by omega))⟩
  case round=>
    obtain⟨k,hk,rfl,rC⟩:=hrel;obtain⟨W,hW⟩:=aqx wr;subst hW;by_cases hlt:k<4
    · have hki:(k:Int)<4:=by omega
      have hcell:=HN4.out _ _ _ _ rC.out k hlt;have hcb:=HNB.out;obtain⟨n,hn⟩:=aqx (cnt4 N0 N1 N2 N3 k);have hnb:n<=9223372036854775807:=(by rw [hn];unfold cnt4;split<;>(try split)<;>(try split)<;>omega);have hwn:IntKind.u64.wrap (n:Int)=(n:Int):=(by rw [IntKind.wrap_u64];omega);rw [<-hn]at hcell;have Z9:Hid (bl4 (k+1)=bl4 k++be 2 n):=ah (by rw [HBL.out.1.2 k, <-hn]);clear hn hnb hcb;go_wp2_with(go_at_call 60;refine(fO (n:Int) (by omega) 2 (by decide) (by have:=HP.out.2.2.2.2.2.2;omega) _ rC.out).mono ?_;rintro y w6 ⟨rfl,hs⟩;have HS6:=ah hs;clear hs)
      go_roundw
      case rel=>exact⟨k+1,by omega,by go_num,ah (HS6.out.any (fun _=>by rw [Z9.out];simp) (by omega))⟩
      case measure=>simp [intOf];omega
    · obtain rfl:k=4:=by omega
      go_wp2_with fail
      go_meet
      exact ah ((aiF.out _ _ _ _ rC.out).any (fun _=>rfl) (by omega))
 clear HS HS2 HN4 aiF;obtain⟨w7,rfl⟩:=aqx wc;obtain⟨LB,hLB⟩:=aqx (LA++ky++bl4 4);rw [<-hLB]at hcut;have HS:=hcut;have HLB:=ah hLB;clear hcut hLB
 go_upto_block 2 with fail
 go_cut [8,9]from 117 to 151 (fun s8 s9 wx=>Hid (WS V1 b g (LB++wins.flatMap jH) (m+48+68+8+448) (eU EC (dK (fun y=>jg (jr y)) wins)) wx))
 case first=>
  go_wp2_with fail
  go_loopw [8,9] (fun j _ W=>∃k:Nat,(k<=N0/\ k<=16)/\ j= .int .i64 k/\ Hid (WS V1 b g (LB++(wins.take k).flatMap jH) (m+48+68+8+28*k) (eU EC (dK (fun y=>jg (jr y)) (wins.take k))) W)) (fun j _ _=>N0-(intOf j).toNat)
  case atStart=>exact⟨0,⟨aB _,aB _⟩,rfl,ah (by rw [show dK (fun y=>jg (jr y)) (wins.take 0)=0 from rfl,pI];exact HS.out.any (l':=LB++(wins.take 0).flatMap jH) (m':=m+48+68+8+28*0) (fun _=>by simp) (by omega))⟩
  case round=>
    obtain⟨k,⟨hk,hk2⟩,rfl,rC⟩:=hrel;obtain⟨W,hW⟩:=aqx wr;subst hW;have fc:=(HC.out _ _ _ _ rC.out).2.2.2.2.2.2.2.1;obtain⟨fe,ff⟩:=rC.out.err;have yH:Hid (N0=wins.length):=ah Io.out.1;have BI:=ah (vN (fun y=>jg (jr y)) EC wins k);obtain⟨E,hE⟩:=aqx (eU EC (dK (fun y=>jg (jr y)) (wins.take k)));rw [<-hE]at rC BI fe;have HE:=ah hE;clear hE;by_cases hlt:k<N0
    · have hki:(k:Int)< (N0:Int):=by omega
      by_cases h0:E=0
      · subst h0
        have z0:(((0:Nat):Int)==0)=true:=rfl;have hBD:=pO.out (by have:=HE.out.symm;first|exact(gB this).1|exact(gB (gB this).1).1|exact(gB (gB (gB this).1).1).1);have hlt2:k<wins.length:=(by have:=yH.out;omega);obtain⟨a,p,ra,hp,hpb,hcp⟩:=((HR.out _ _ _ _ rC.out).1).at hlt2;subst ra;obtain⟨y,hy⟩:=aqx (wins[k]);have hyb:KW y:=(by rw [hy];exact Jl.out.1 _ (ay _));rw [<-hy]at hcp;have Zi:Hid ((wins.take (k+1)).flatMap jH=(wins.take k).flatMap jH++(be 8 y.fZ.toNat++(be 8 y.pa.toNat++(be 8 y.size.toNat++be 4 y.perm.toNat)))):=ah (by rw [sU jH wins k hlt2, <-hy];rfl);have Fe:Hid (eU EC (dK (fun y=>jg (jr y)) (wins.take (k+1)))=eU 0 (if inB y.perm 0 7=true then 0 else 144)):=ah (by
         rw [vO (fun y=>jg (jr y)) wins k hlt2, <-hy, <-nH, <-HE.out];unfold jg jr;cases inB y.perm 0 7<;>rfl)
        have DU:=ah hyb;have gI:=ah hcp;obtain⟨XX,hXX⟩:=aqx ((W.alloc (.cells (vec 4 (bG JJ)) 67)).setRow W.heap.size (vec 4 (bG y)));have bX:Below W.heap.size W XX:=(by rw [hXX];exact bg ((aC _ _).alloc (aj _) _) (aj _) _);have aX:aU XX W.heap.size 67 4 (bG y):=(by rw [hXX];exact(aU.new W _ _ _).row _);obtain⟨b3,hS3,BJ,G7⟩:=rC.out.box bX;obtain⟨u,hu⟩:=aqx (W.heap.size);rw [<-hu]at aX BJ;have HF:Hid (∀ (l':By) (m' e':Nat) (Y:World),WS XX b3 g l' m' e' Y->Y.cell? ⟨u,0,none⟩=some (.int .u64 y.fZ)/\ Y.cell? ⟨u,1,none⟩=some (.int .u64 y.pa)/\ Y.cell? ⟨u,2,none⟩=some (.int .u64 y.size)/\ Y.cell? ⟨u,3,none⟩=some (.int .i64 y.perm)):=ah (fun l' m' e' Y hs=>by
         have ha:=hs.arr aX (BJ u (aj _)).1 (BJ u (aj _)).2;exact⟨ha.cell (i:=0) (by decide),ha.cell (i:=1) (by decide),ha.cell (i:=2) (by decide),ha.cell (i:=3) (by decide)⟩)
        have HBK:=ah G7;have HXX:=ah hXX;have HU:=ah hu;have HT:Hid (WS XX b3 g (LB++(wins.take k).flatMap jH) (m+48+68+8+28*k) 0 XX):=ah hS3;have oK:Hid (k+1<=N0/\ k+1<=16):=ah (by omega);have HM:=ah HP.out.2.2.2.2.2.2;clear hy hyb hcp hXX bX aX hS3 BJ G7 hu hpb hBD hlt2 hlt;go_upto_region 21 with(first
         |((with_reducible refine aqy (.load 67 _) ?_);refine bC rfl 67 _ rfl p rfl _ (aW gI.out Tryz.underlying67 rfl gQ) ?_)
         |((with_reducible refine aqy (.store _ _ _) ?_);refine bD rfl 67 _ _ rfl _ rfl _ rfl (aS (aU.new W _ _ _) (bG y) gQ (mZ _ _)) ?_))
        rw [<-HXX.out, <-HU.out];clear HXX HU fc fe ff gI;have cx:=(HF.out _ _ _ _ HT.out).1;go_upto_region 22 with(go_at_call 60;refine(fO y.fZ DU.out.1.1 8 (by decide) (by have:=HM.out;omega) _ HT.out).mono ?_;rintro y1 w8 ⟨rfl,hs⟩;replace HT:=ah hs;clear hs)
        clear cx;have cx:=(HF.out _ _ _ _ HT.out).2.1;go_upto_region 23 with(go_at_call 60;refine(fO y.pa DU.out.2.1.1 8 (by decide) (by have:=HM.out;omega) _ HT.out).mono ?_;rintro y1 w8 ⟨rfl,hs⟩;replace HT:=ah hs;clear hs)
        clear cx;have cx:=(HF.out _ _ _ _ HT.out).2.2.1;go_upto_region 24 with(go_at_call 60;refine(fO y.size DU.out.2.2.1.1 8 (by decide) (by have:=HM.out;omega) _ HT.out).mono ?_;rintro y1 w8 ⟨rfl,hs⟩;replace HT:=ah hs;clear hs)
        clear cx;have cx:=(HF.out _ _ _ _ HT.out).2.2.2;go_wp2_with(go_at_call 62;refine(o9 y.perm DU.out.2.2.2 7 4 (by decide) (by have:=HM.out;omega) _ HT.out).mono ?_;rintro y1 w8 ⟨rfl,hs⟩;replace HT:=ah hs;clear hs)
        go_roundw
        case rel=>exact⟨k+1,oK.out,by go_num,ah (by rw [Fe.out];exact(HBK.out _ _ _ _ HT.out).any (fun _=>by rw [Zi.out];simp) (by omega))⟩
        case measure=>have:=oK.out.1;simp [intOf];omega
      · have z0:((E:Int)==0)=false:=by simp;omega
        have z1:¬ (E:Int)=0:=(by omega);have HST:=ah (BI.out h0);have H0:=ah h0;clear h0;go_wp2_with fail
        go_meet
        exact ah (by rw [HST.out];exact(rC.out.any (l':=LB++wins.flatMap jH) (m':=m+48+68+8+448) (fun h=>absurd h H0.out) (by omega)))
    · have hki:¬ (k:Int)< (N0:Int):=by omega
      have hEE:E=eU EC (dK (fun y=>jg (jr y)) wins):=(by rw [HE.out,List.take_of_length_le (by have:=yH.out;omega)]);have Ox:=ah hEE;clear hEE;go_wp2_with fail
      go_meet
      exact ah (by rw [<-Ox.out];exact(by have h:=rC.out;rw [show wins.take k=wins by rw [List.take_of_length_le (by have:=yH.out;omega)]]at h;exact h.any (l':=LB++wins.flatMap jH) (m':=m+48+68+8+448) (fun _=>rfl) (by omega)))
 clear HS;obtain⟨w9,rfl⟩:=aqx wc;obtain⟨LC,hLC⟩:=aqx (LB++wins.flatMap jH);obtain⟨ED,hED⟩:=aqx (eU EC (dK (fun y=>jg (jr y)) wins));rw [<-hLC, <-hED]at hcut;have HS:=hcut;have HLC:=ah hLC;have HED:=ah hED;clear hcut hLC hED;have pO:Hid (ED=0->(1<=N0/\ N0<=16)/\ N1<=16/\ N2<=64/\ N3<=32):=ah (fun h0=>pO.out (gB (by rw [<-HED.out];exact h0)).1)
 go_upto_block 4 with fail
 go_cut [10]from 152 to 189 (fun s10 wx=>Hid (WS V1 b g (LC++dG.flatMap jL) (m+48+68+8+448+384) (eU ED (dK (fun _:De=>0) dG)) wx))
 case first=>
  go_wp2_with fail
  go_loopw [10] (fun j W=>∃k:Nat,(k<=N1/\ k<=16)/\ j= .int .i64 k/\ Hid (WS V1 b g (LC++(dG.take k).flatMap jL) (m+48+68+8+448+24*k) (eU ED (dK (fun _:De=>0) (dG.take k))) W)) (fun j _=>N1-(intOf j).toNat)
  case atStart=>exact⟨0,⟨aB _,aB _⟩,rfl,ah (by rw [show dK (fun _:De=>0) (dG.take 0)=0 from rfl,pI];exact HS.out.any (l':=LC++(dG.take 0).flatMap jL) (m':=m+48+68+8+448+24*0) (fun _=>by simp) (by omega))⟩
  case round=>
    obtain⟨k,⟨hk,hk2⟩,rfl,rC⟩:=hrel;obtain⟨W,hW⟩:=aqx wr;subst hW;have fc:=(HC.out _ _ _ _ rC.out).2.2.2.2.2.2.2.2.1;obtain⟨fe,ff⟩:=rC.out.err;have yH:Hid (N1=dG.length):=ah Io.out.2.1;have BI:=ah (vN (fun _:De=>0) ED dG k);obtain⟨E,hE⟩:=aqx (eU ED (dK (fun _:De=>0) (dG.take k)));rw [<-hE]at rC BI fe;have HE:=ah hE;clear hE;by_cases hlt:k<N1
    · have hki:(k:Int)< (N1:Int):=by omega
      by_cases h0:E=0
      · subst h0
        have z0:(((0:Nat):Int)==0)=true:=rfl;have hBD:=pO.out (by have:=HE.out.symm;first|exact(gB this).1|exact(gB (gB this).1).1|exact(gB (gB (gB this).1).1).1);have hlt2:k<dG.length:=(by have:=yH.out;omega);obtain⟨a,p,ra,hp,hpb,hcp⟩:=((HR.out _ _ _ _ rC.out).2.1).at hlt2;subst ra;obtain⟨y,hy⟩:=aqx (dG[k]);have hyb:=Jl.out.2.1 _ (ay hlt2);rw [<-hy]at hcp hyb;have DU:=ah hyb;have hp0:=hp;have Zi:Hid ((dG.take (k+1)).flatMap jL=(dG.take k).flatMap jL++(be 8 y.fZ.toNat++(be 8 y.pa.toNat++be 8 y.size.toNat))):=ah (by rw [sU jL dG k hlt2, <-hy];rfl);have Fe:Hid (eU ED (dK (fun _:De=>0) (dG.take (k+1)))=0):=ah (by rw [DC];have:=HE.out;rw [DC]at this;exact this.symm);have HF:Hid (∀ (l':By) (m' e':Nat) (Y:World),WS V1 b g l' m' e' Y->Y.cell? p=some (.int .u64 y.fZ)/\ Y.cell? ⟨p.block,p.off+1,none⟩=some (.int .u64 y.pa)/\ Y.cell? ⟨p.block,p.off+2,none⟩=some (.int .u64 y.size)):=ah (fun l' m' e' Y hs=>by
         have hrow:=(HR.out _ _ _ _ hs).2.1;obtain⟨a2,p2,Zj,hp2,-,hcp2⟩:=hrow.at hlt2;injection Zj with Zj
         subst Zj;rw [hp0]at hp2;subst hp2;rw [<-hy]at hcp2;exact⟨hcp2 0 (by decide),hcp2 1 (by decide),hcp2 2 (by decide)⟩)
        have oK:Hid (k+1<=N1/\ k+1<=16):=ah (by omega);have HM:=ah HP.out.2.2.2.2.2.2;have HT:=rC;clear hy hyb hcp hpb hBD hlt2 hlt ff hp0;have cx:=(HF.out _ _ _ _ HT.out).1;go_upto_region 29 with(go_at_call 60;refine(fO y.fZ DU.out.1.1 8 (by decide) (by have:=HM.out;omega) _ HT.out).mono ?_;rintro y1 w8 ⟨rfl,hs⟩;replace HT:=ah hs;clear hs)
        clear cx;have cx:=(HF.out _ _ _ _ HT.out).2.1;replace fc:=(HC.out _ _ _ _ HT.out).2.2.2.2.2.2.2.2.1;go_upto_region 30 with(go_at_call 60;refine(fO y.pa DU.out.2.1.1 8 (by decide) (by have:=HM.out;omega) _ HT.out).mono ?_;rintro y1 w8 ⟨rfl,hs⟩;replace HT:=ah hs;clear hs)
        clear cx;have cx:=(HF.out _ _ _ _ HT.out).2.2;replace fc:=(HC.out _ _ _ _ HT.out).2.2.2.2.2.2.2.2.1;go_wp2_with(go_at_call 60;refine(fO y.size DU.out.2.2.1 8 (by decide) (by have:=HM.out;omega) _ HT.out).mono ?_;rintro y1 w8 ⟨rfl,hs⟩;replace HT:=ah hs;clear hs)
        clear cx;go_roundw
        case rel=>exact⟨k+1,oK.out,by go_num,ah (by rw [Fe.out];exact HT.out.any (fun _=>by rw [Zi.out];simp) (by omega))⟩
        case measure=>have:=oK.out.1;simp [intOf];omega
      · have z0:((E:Int)==0)=false:=by simp;omega
        have z1:¬ (E:Int)=0:=(by omega);have HST:=ah (BI.out h0);have H0:=ah h0;clear h0;go_wp2_with fail
        go_meet
        exact ah (by rw [HST.out];exact(rC.out.any (l':=LC++dG.flatMap jL) (m':=m+48+68+8+448+384) (fun h=>absurd h H0.out) (by omega)))
    · have hki:¬ (k:Int)< (N1:Int):=by omega
      have hEE:E=eU ED (dK (fun _:De=>0) dG):=(by rw [HE.out,List.take_of_length_le (by have:=yH.out;omega)]);have Ox:=ah hEE;clear hEE;go_wp2_with fail
      go_meet
      exact ah (by rw [<-Ox.out];exact(by have h:=rC.out;rw [show dG.take k=dG by rw [List.take_of_length_le (by have:=yH.out;omega)]]at h;exact h.any (l':=LC++dG.flatMap jL) (m':=m+48+68+8+448+384) (fun _=>rfl) (by omega)))
 clear HS;obtain⟨w10,rfl⟩:=aqx wc;obtain⟨LD,hLD⟩:=aqx (LC++dG.flatMap jL);obtain⟨EF,hEF⟩:=aqx (eU ED (dK (fun _:De=>0) dG));rw [<-hLD, <-hEF]at hcut;have HS:=hcut;have HLD:=ah hLD;have HEF:=ah hEF;clear hcut hLD hEF;have pO:Hid (EF=0->(1<=N0/\ N0<=16)/\ N1<=16/\ N2<=64/\ N3<=32):=ah (fun h0=>pO.out (gB (by rw [<-HEF.out];exact h0)).1)
 go_upto_block 6 with fail
 go_cut [11]from 190 to 227 (fun s11 wx=>Hid (WS V1 b g (LD++cO.flatMap jM) (m+48+68+8+448+384+512) (eU EF (dK (fun y=>jg (jv y)) cO)) wx))
 case first=>
  go_wp2_with fail
  go_loopw [11] (fun j W=>∃k:Nat,(k<=N2/\ k<=64)/\ j= .int .i64 k/\ Hid (WS V1 b g (LD++(cO.take k).flatMap jM) (m+48+68+8+448+384+8*k) (eU EF (dK (fun y=>jg (jv y)) (cO.take k))) W)) (fun j _=>N2-(intOf j).toNat)
  case atStart=>exact⟨0,⟨aB _,aB _⟩,rfl,ah (by rw [show dK (fun y=>jg (jv y)) (cO.take 0)=0 from rfl,pI];exact HS.out.any (l':=LD++(cO.take 0).flatMap jM) (m':=m+48+68+8+448+384+8*0) (fun _=>by simp) (by omega))⟩
  case round=>
    obtain⟨k,⟨hk,hk2⟩,rfl,rC⟩:=hrel;obtain⟨W,hW⟩:=aqx wr;subst hW;have fc:=(HC.out _ _ _ _ rC.out).2.2.2.2.2.2.2.2.2.1;obtain⟨fe,ff⟩:=rC.out.err;have yH:Hid (N2=cO.length):=ah Io.out.2.2.1;have BI:=ah (vN (fun y=>jg (jv y)) EF cO k);obtain⟨E,hE⟩:=aqx (eU EF (dK (fun y=>jg (jv y)) (cO.take k)));rw [<-hE]at rC BI fe;have HE:=ah hE;clear hE;by_cases hlt:k<N2
    · have hki:(k:Int)< (N2:Int):=by omega
      by_cases h0:E=0
      · subst h0
        have z0:(((0:Nat):Int)==0)=true:=rfl;have hBD:=pO.out (by have:=HE.out.symm;first|exact(gB this).1|exact(gB (gB this).1).1|exact(gB (gB (gB this).1).1).1);have hlt2:k<cO.length:=(by have:=yH.out;omega);obtain⟨a,p,ra,hp,hpb,hcp⟩:=((HR.out _ _ _ _ rC.out).2.2.1).at hlt2;subst ra;obtain⟨y,hy⟩:=aqx (cO[k]);have hyb:=Jl.out.2.2.1 _ (ay hlt2);rw [<-hy]at hcp hyb;have DU:=ah hyb;have hp0:=hp;have Zi:Hid ((cO.take (k+1)).flatMap jM=(cO.take k).flatMap jM++(be 2 y.number.toNat++(be 2 y.cpu.toNat++be 4 (xJ y.edge)))):=ah (by rw [sU jM cO k hlt2, <-hy];rfl);have Fe:Hid (eU EF (dK (fun y=>jg (jv y)) (cO.take (k+1)))=eU (eU 0 (if inB y.number 0 65535=true then 0 else 144)) (if inB y.cpu 0 65535=true then 0 else 144)):=ah (by
         rw [vO (fun y=>jg (jv y)) cO k hlt2, <-hy, <-nH, <-HE.out];unfold jg jv;cases inB y.number 0 65535<;>cases inB y.cpu 0 65535<;>rfl)
        have HF:Hid (∀ (l':By) (m' e':Nat) (Y:World),WS V1 b g l' m' e' Y->Y.cell? p=some (.int .i64 y.number)/\ Y.cell? ⟨p.block,p.off+1,none⟩=some (.int .i64 y.cpu)/\ Y.cell? ⟨p.block,p.off+2,none⟩=some (.bool y.edge)):=ah (fun l' m' e' Y hs=>by
         have hrow:=(HR.out _ _ _ _ hs).2.2.1;obtain⟨a2,p2,Zj,hp2,-,hcp2⟩:=hrow.at hlt2;injection Zj with Zj
         subst Zj;rw [hp0]at hp2;subst hp2;rw [<-hy]at hcp2;exact⟨hcp2 0 (by decide),hcp2 1 (by decide),hcp2 2 (by decide)⟩)
        have oK:Hid (k+1<=N2/\ k+1<=64):=ah (by omega);have HM:=ah HP.out.2.2.2.2.2.2;have HT:=rC;clear hy hyb hcp hpb hBD hlt2 hlt ff hp0;have cx:=(HF.out _ _ _ _ HT.out).1;go_upto_region 35 with(go_at_call 62;refine(o9 y.number DU.out.1 65535 2 (by decide) (by have:=HM.out;omega) _ HT.out).mono ?_;rintro y1 w8 ⟨rfl,hs⟩;replace HT:=ah hs;clear hs)
        clear cx;have cx:=(HF.out _ _ _ _ HT.out).2.1;replace fc:=(HC.out _ _ _ _ HT.out).2.2.2.2.2.2.2.2.2.1;go_upto_region 36 with(go_at_call 62;refine(o9 y.cpu DU.out.2 65535 2 (by decide) (by have:=HM.out;omega) _ HT.out).mono ?_;rintro y1 w8 ⟨rfl,hs⟩;replace HT:=ah hs;clear hs)
        clear cx;have cx:=(HF.out _ _ _ _ HT.out).2.2;replace fc:=(HC.out _ _ _ _ HT.out).2.2.2.2.2.2.2.2.2.1;go_wp2_with(go_at_call 103;refine(G5 y.edge (by have:=HM.out;omega) _ HT.out).mono ?_;rintro y1 w8 ⟨rfl,hs⟩;replace HT:=ah hs;clear hs)
        clear cx;go_roundw
        case rel=>exact⟨k+1,oK.out,by go_num,ah (by rw [Fe.out];exact HT.out.any (fun _=>by rw [Zi.out];simp) (by omega))⟩
        case measure=>have:=oK.out.1;simp [intOf];omega
      · have z0:((E:Int)==0)=false:=by simp;omega
        have z1:¬ (E:Int)=0:=(by omega);have HST:=ah (BI.out h0);have H0:=ah h0;clear h0;go_wp2_with fail
        go_meet
        exact ah (by rw [HST.out];exact(rC.out.any (l':=LD++cO.flatMap jM) (m':=m+48+68+8+448+384+512) (fun h=>absurd h H0.out) (by omega)))
    · have hki:¬ (k:Int)< (N2:Int):=by omega
      have hEE:E=eU EF (dK (fun y=>jg (jv y)) cO):=(by rw [HE.out,List.take_of_length_le (by have:=yH.out;omega)]);have Ox:=ah hEE;clear hEE;go_wp2_with fail
      go_meet
      exact ah (by rw [<-Ox.out];exact(by have h:=rC.out;rw [show cO.take k=cO by rw [List.take_of_length_le (by have:=yH.out;omega)]]at h;exact h.any (l':=LD++cO.flatMap jM) (m':=m+48+68+8+448+384+512) (fun _=>rfl) (by omega)))
 clear HS;obtain⟨w11,rfl⟩:=aqx wc;obtain⟨LE,OV⟩:=aqx (LD++cO.flatMap jM);obtain⟨EG,hEG⟩:=aqx (eU EF (dK (fun y=>jg (jv y)) cO));rw [<-OV, <-hEG]at hcut;have HS:=hcut;have Qg:=ah OV;have HEG:=ah hEG;clear hcut OV hEG;have pO:Hid (EG=0->(1<=N0/\ N0<=16)/\ N1<=16/\ N2<=64/\ N3<=32):=ah (fun h0=>pO.out (gB (by rw [<-HEG.out];exact h0)).1);have HQE:Hid (∀ (Y:World),WS V1 b g (LE++strs.flatMap pX) (m+48+68+8+448+384+512+128) (eU EG (dK (fun _:Int=>0) strs)) Y->Q (.returned (.tuple #[])) Y):=ah (fun Y hs=>by
  refine HQ.out (m+48+68+8+448+384+512+128) (eU EG (dK (fun _:Int=>0) strs)) Y (by omega) ?_ (hs.any (fun _=> ?_) (aj _))
  · rw [DC,pI,HEG.out,HEF.out,DC,pI,HED.out,HEC.out,HEB.out,HEA.out]
  · rw [Zg.out,Qg.out,HLD.out,HLC.out,HLB.out,Sr.out,HBL.out.2]
    simp)
 go_upto_block 8 with fail
 go_wp2_with fail
 go_loopw [12] (fun j W=>∃k:Nat,(k<=N3/\ k<=32)/\ j= .int .i64 k/\ Hid (WS V1 b g (LE++(strs.take k).flatMap pX) (m+48+68+8+448+384+512+4*k) (eU EG (dK (fun _:Int=>0) (strs.take k))) W)) (fun j _=>N3-(intOf j).toNat)
 case atStart=>exact⟨0,⟨aB _,aB _⟩,rfl,ah (by rw [show dK (fun _:Int=>0) (strs.take 0)=0 from rfl,pI];exact HS.out.any (l':=LE++(strs.take 0).flatMap pX) (m':=m+48+68+8+448+384+512+4*0) (fun _=>by simp) (by omega))⟩
 case round=>
  obtain⟨k,⟨hk,hk2⟩,rfl,rC⟩:=hrel;obtain⟨W,hW⟩:=aqx wr;subst hW;have fc:=(HC.out _ _ _ _ rC.out).2.2.2.2.2.2.2.2.2.2;obtain⟨fe,ff⟩:=rC.out.err;have yH:Hid (N3=strs.length):=ah Io.out.2.2.2;have BI:=ah (vN (fun _:Int=>0) EG strs k);obtain⟨E,hE⟩:=aqx (eU EG (dK (fun _:Int=>0) (strs.take k)));rw [<-hE]at rC BI fe;have HE:=ah hE;clear hE;by_cases hlt:k<N3
  · have hki:(k:Int)< (N3:Int):=by omega
    by_cases h0:E=0
    · subst h0
      have z0:(((0:Nat):Int)==0)=true:=rfl;have hBD:=pO.out (by have:=HE.out.symm;first|exact(gB this).1|exact(gB (gB this).1).1|exact(gB (gB (gB this).1).1).1);have hlt2:k<strs.length:=(by have:=yH.out;omega);obtain⟨a,p,ra,hp,hpb,hcp⟩:=((HR.out _ _ _ _ rC.out).2.2.2).at hlt2;subst ra;obtain⟨y,hy⟩:=aqx (strs[k]);have hyb:=Jl.out.2.2.2 _ (ay hlt2);rw [<-hy]at hcp hyb;have DU:=ah hyb;have hp0:=hp;rw [Nat.mul_one]at hp;have hwy:IntKind.u64.wrap y=y:=(by rw [IntKind.wrap_u64];unfold rP at hyb;omega);have Zi:Hid ((strs.take (k+1)).flatMap pX=(strs.take k).flatMap pX++be 4 y.toNat):=ah (by rw [sU pX strs k hlt2, <-hy];rfl);have Fe:Hid (eU EG (dK (fun _:Int=>0) (strs.take (k+1)))=0):=ah (by rw [DC];have:=HE.out;rw [DC]at this;exact this.symm);have HF:Hid (∀ (l':By) (m' e':Nat) (Y:World),WS V1 b g l' m' e' Y->Y.cell? p=some (.int .u32 y)):=ah (fun l' m' e' Y hs=>by
        have hrow:=(HR.out _ _ _ _ hs).2.2.2;obtain⟨a2,p2,Zj,hp2,-,hcp2⟩:=hrow.at hlt2;injection Zj with Zj
        subst Zj;rw [hp0]at hp2;subst hp2;rw [<-hy]at hcp2;exact hcp2 0 (by decide))
      have oK:Hid (k+1<=N3/\ k+1<=32):=ah (by omega);have HM:=ah HP.out.2.2.2.2.2.2;have HT:=rC;clear hy hyb hcp hpb hBD hlt2 hlt ff hp0;have cx:=(HF.out _ _ _ _ HT.out);go_wp2_with(go_at_call 60;refine(fO y DU.out.1 4 (by decide) (by have:=HM.out;omega) _ HT.out).mono ?_;rintro y1 w8 ⟨rfl,hs⟩;replace HT:=ah hs;clear hs)
      clear cx;go_roundw
      case rel=>exact⟨k+1,oK.out,by go_num,ah (by rw [Fe.out];exact HT.out.any (fun _=>by rw [Zi.out];simp) (by omega))⟩
      case measure=>have:=oK.out.1;simp [intOf];omega
    · have z0:((E:Int)==0)=false:=by simp;omega
      have z1:¬ (E:Int)=0:=(by omega);have HST:=ah (BI.out h0);have H0:=ah h0;clear h0;go_wp2_with fail
      go_end0;exact HQE.out _ (by rw [HST.out];exact(rC.out.any (l':=LE++strs.flatMap pX) (m':=m+48+68+8+448+384+512+128) (fun h=>absurd h H0.out) (by omega)))
  · have hki:¬ (k:Int)< (N3:Int):=by omega
    have hEE:E=eU EG (dK (fun _:Int=>0) strs):=(by rw [HE.out,List.take_of_length_le (by have:=yH.out;omega)]);have Ox:=ah hEE;clear hEE;go_wp2_with fail
    go_end0;exact HQE.out _ (by rw [<-Ox.out];exact(by have h:=rC.out;rw [show strs.take k=strs by rw [List.take_of_length_le (by have:=yH.out;omega)]]at h;exact h.any (l':=LE++strs.flatMap pX) (m':=m+48+68+8+448+384+512+128) (fun _=>rfl) (by omega)))
end
open Go.RowKit
attribute [local go_sem ↓ high] oZ sW zu
def zf(x:Cf)(w:World)(e:Ending)(w':World):Prop:=(if lT x=0 then∃v,e= .returned (.tuple #[v,.int .i64 0])/\ w'.ownsRow w.heap.size 5 1 v (tY x).length (jF (tY x))else e= .returned (.tuple #[.slice none 0 0,.int .i64 (lT x:Int)]))/\ Below w.heap.size w w'
theorem zf.no{x:Cf}{w w':World}{n:Nat}(h:lT x=n)(hn:n≠0)(hb:Below w.heap.size w w'):zf x w (.returned (.tuple #[.slice none 0 0,.int .i64 (n:Int)])) w':=⟨by rw [if_neg (by omega),h],hb⟩
theorem zf.yes{x:Cf}{w w':World}{v:Value}(h:lT x=0)(hv:w'.ownsRow w.heap.size 5 1 v (tY x).length (jF (tY x)))(hb:Below w.heap.size w w'):zf x w (.returned (.tuple #[v,.int .i64 0])) w':=⟨by rw [if_pos h];exact⟨v,rfl,hv⟩,hb⟩
theorem Zk:∀ys:List GV,dK jX (ys.map GV.g)=dK (fun y=>jX y.g) ys
 | []=>rfl
 |y::ys=>by
  show(if jX y.g=0 then dK jX (ys.map GV.g)else jX y.g)=if jX y.g=0 then dK (fun y=>jX y.g) ys else jX y.g
  rw [Zk ys]
theorem abt(a b:En)(w:World):(Instr.index 45 (.agg (vec 6 (yG a b))) (.int .i64 0)).run Tryz.prog w= .ok (.agg (vec 3 (dY a))) w:=by kernel_rfl
theorem abu(a b:En)(w:World):(Instr.index 45 (.agg (vec 6 (yG a b))) (.int .i64 1)).run Tryz.prog w= .ok (.agg (vec 3 (dY b))) w:=by kernel_rfl
theorem Zl:(Tryz.prog.info? 45).map (·.size)=some 6:=by kernel_rfl
theorem WS.row{V W:World}{g:Nat}{l:By}{m:Nat}(h:WS V none g l m 0 W):∃ (A:Option Addr) (c:Nat),W.cell? ⟨g,0,none⟩=some (.slice A l.length c)/\ OwnB W (g+1) (.slice A l.length c) l/\ l.length<=m:=by
 obtain⟨A,c,L,-,h2,h3,-,h5,h6,-,-⟩:=h.open;have:=h5 rfl;subst this;exact⟨A,c,h2,h3,h6⟩
theorem QD(x:Cf)(a c:Value)(w:World)(hx:Ai w w.heap.size x a c)(hb:Aj x)(hnk:∀g∈x.gs,g.name.length<=1000000):Calls Tryz.prog 25 #[ji x a c] w (zf x w):=by
 obtain⟨V,hV⟩:=aqx (w.alloc (.cells (vec 3 (eX x.ver a c)) 31));have k1:aU V w.heap.size 31 3 (eX x.ver a c):=(by rw [hV];exact aU.new w _ _ _);have hB:Below w.heap.size w V:=(by rw [hV];exact(aC _ _).alloc (aj _) _);obtain⟨⟨A,d,ys,rfl,hm,hr,hl⟩,⟨A2,d2,rfl,hr2,hl2⟩⟩:=hx.up hB;have hW0:w.heap.size<V.heap.size:=k1.lt;obtain⟨vn,hvn⟩:=aqx (x.ver);have hlen:ys.length=x.gs.length:=(by rw [<-hm,List.length_map]);have hyb:∀y∈ys,GsB y.g/\ y.g.name.length<=1000000:=fun y hy=>by
   have hmem:y.g∈x.gs:=(by rw [<-hm];exact List.mem_map_of_mem hy);exact⟨hb.gs _ hmem,hnk _ hmem⟩
 obtain⟨N,hN⟩:=aqx (x.gs.length);obtain⟨M,hM⟩:=aqx (x.dH.length);obtain⟨dH,VI⟩:=aqx (x.dH);have zX:Hid (vC x=if(decide (1<=N)&&decide (N<=16)&&decide (M<=32))=false then 142 else eU (dK (fun y=>jX y.g) ys) (dK (fun z=>jg (kM z)) dH)):=ah (by
   unfold vC;rw [show(inB (x.gs.length:Int) 1 16&&inB (x.dH.length:Int) 0 32)=(decide (1<=N)&&decide (N<=16)&&decide (M<=32)) by
     rw [hN,hM];unfold inB;rw [Bool.eq_iff_iff];simp only [Bool.and_eq_true,decide_eq_true_eq];omega]
   rw [show dK jX x.gs=dK (fun y=>jX y.g) ys by rw [<-hm];exact Zk ys];rw [BD (e:=fun z=>jg (kM z)) (b:=kM) (n:=144) (fun _=>rfl) (by decide),VI]
   rfl)
 have Zg:Hid (tY x=be 4 1111705159++(be 2 1++(be 2 N++(be 2 M++(be 2 0++be 4 vn.toNat))))++(ys.flatMap (fun y=>nZ y.g)++dH.flatMap kD)):=ah (by
   rw [hN,hM,hvn,VI,show ys.flatMap (fun y=>nZ y.g)=x.gs.flatMap nZ by rw [<-hm,List.flatMap_map]]
   rfl)
 have Sv:Hid (lT x=eU (vC x) (if(tY x).length<=65536 then 0 else 2)):=ah rfl;have je:Hid (∀ (v:Value) (W:World),lT x=0->W.ownsRow w.heap.size 5 1 v (tY x).length (jF (tY x))->Below w.heap.size w W->zf x w (.returned (.tuple #[v,.int .i64 0])) W):=ah (fun v W h1 h2 h3=>zf.yes h1 h2 h3);have qR:Hid (∀ (n:Nat) (W:World),lT x=n->n≠0->Below w.heap.size w W->zf x w (.returned (.tuple #[.slice none 0 0,.int .i64 (n:Int)])) W):=ah (fun n W h1 h2 h3=>zf.no h1 h2 h3);obtain⟨Q,hQ⟩:=aqx (zf x w);rw [<-hQ]at je qR⊢;obtain⟨LZ,hLZ⟩:=aqx (tY x);obtain⟨EP,hEP⟩:=aqx (lT x);obtain⟨EC,hEC⟩:=aqx (vC x);rw [<-hEC]at zX Sv;rw [<-hLZ]at Zg Sv je;rw [<-hEP]at Sv je qR;have aiH:∀z∈dH,Ui z:=(by rw [VI];exact hb.dH);have aek:rP vn:=(by rw [hvn];exact hb.ver);rw [<-hN]at hl k1 hlen hV;rw [<-hM]at hl2 k1 hV;rw [<-hvn]at k1 hV;unfold ji;rw [<-hN, <-hM, <-hvn];have hMC:M=dH.length:=(by rw [hM,VI]);rw [<-VI]at hr2;obtain⟨q,hq⟩:=aqx (w.heap.size);rw [<-hq]at k1 hW0;obtain⟨x0,x1,x2⟩:=vF (x:=⟨vn,x.gs,x.dH⟩) k1;have HB0:=ah hB;have OX:=ah hq;have HW:=ah hV;have HLEN:=ah (ak hlen hMC);have Jl:=ah (ak hyb aiH);have hwn:IntKind.u64.wrap (N:Int)=(N:Int):=(by rw [IntKind.wrap_u64];omega);have hwm:IntKind.u64.wrap (M:Int)=(M:Int):=(by rw [IntKind.wrap_u64];omega);have hwv:IntKind.u64.wrap vn=vn:=(by rw [IntKind.wrap_u64];unfold rP at aek;omega);have HWR:=ah (ak hwn (ak hwm hwv));have alC:=ah aek.1;obtain⟨g,hg⟩:=aqx (V.heap.size);obtain⟨V2,hV2⟩:=aqx (V.alloc (.cells #[.slice none 0 0,.int .i64 0] 121));have hB2:Below V.heap.size V V2:=(by rw [hV2];exact(aC _ _).alloc (aj _) _);have hA2:aU V2 g 121 2 (wrF (.slice none 0 0) 0):=(by rw [hV2];rw [hg];exact aU.new' V 121 2 (wrF (.slice none 0 0) 0) #[.slice none 0 0,.int .i64 0] rfl);have hS:WS V2 none g [] 0 0 V2:=(WW.begin ⟨none,0,[],hA2,gW.nil _ _,rfl,fun _=>rfl,aj _⟩);have hqg:q<g:=(by rw [hg];exact hW0);have HK:Hid (∀ (l':By) (m' e':Nat) (Y:World),WS V2 none g l' m' e' Y->Y.cell? ⟨q,0,none⟩=some (.int .u32 vn)/\ Y.cell? ⟨q,1,none⟩=some (.slice A N d)/\ Y.cell? ⟨q,2,none⟩=some (.slice A2 M d2)):=ah (fun l' m' e' Y hs=>by
   have h1:=(k1.under hB2).below hs.below hqg;exact⟨h1.cell (i:=0) (by decide),h1.cell (i:=1) (by decide),h1.cell (i:=2) (by decide)⟩)
 have HR:Hid (∀ (l':By) (m' e':Nat) (Y:World),WS V2 none g l' m' e' Y->Qi Y g A ys/\ bI 8 kJ Y g A2 dH):=ah (fun l' m' e' Y hs=>by
   have h1:=(hr.below hB2);have h2:=(hr2.below hB2);rw [<-hg]at h1 h2;exact⟨h1.below hs.below,h2.below hs.below⟩)
 have aiI:Hid (∀ (l':By) (m' e':Nat) (Y:World),WS V2 none g l' m' e' Y->Below w.heap.size w Y):=ah (fun l' m' e' Y hs=>(HB0.out.trans (hB2.mono HB0.out.size)).trans (hs.below.mono (by rw [hg];exact HB0.out.size)));have HG:=ah hg;have Yb:=ah hV2;have HS:Hid (WS V2 none g [] 0 0 V2):=ah hS;have HOW:Hid (∀ (l':By) (m':Nat) (Y:World),WS V2 none g l' m' 0 Y->l'=LZ->∃ (A:Option Addr) (c:Nat),Y.cell? ⟨g,0,none⟩=some (.slice A l'.length c)/\ Y.ownsRow w.heap.size 5 1 (.slice A l'.length c) LZ.length (jF LZ)):=ah (fun l' m' Y hs he=>by
   subst he;obtain⟨A,c,h1,h2,_⟩:=hs.row;exact⟨A,c,h1,WU (h2.low (by rw [hg];exact Nat.le_succ_of_le HB0.out.size))⟩)
 clear hV k1 hB hx hb hnk hm hr hl hr2 hl2 hvn hlen hyb hN hM VI hQ hLZ hEP hEC aiH aek hMC hq hW0 hwn hwm hwv hg hV2 hB2 hA2 hS hqg;go_enter Tryz.func25,Tryz.ntmps25;go_upto_region 1 with fail
 rw [<-HW.out, <-OX.out];clear HW;by_cases t0:N<1
 · have z0:decide ((N:Int)<1)=true:=by simp;omega
   have HE:Hid (EP=142):=ah (by
     have h:=zX.out;rw [if_pos (by simp;omega)]at h;rw [Sv.out,h];rfl)
   clear t0;go_wp2_with fail
   exact qR.out 142 _ HE.out (by decide) HB0.out
 by_cases t1:16<N
 · have z0:decide ((N:Int)<1)=false:=by simp;omega
   have z1:decide ((16:Int)< (N:Int))=true:=(by simp;omega);have HE:Hid (EP=142):=ah (by
     have h:=zX.out;rw [if_pos (by simp;omega)]at h;rw [Sv.out,h];rfl)
   clear t0 t1;go_wp2_with fail
   exact qR.out 142 _ HE.out (by decide) HB0.out
 by_cases t2:32<M
 · have z0:decide ((N:Int)<1)=false:=by simp;omega
   have z1:decide ((16:Int)< (N:Int))=false:=(by simp;omega);have z2:decide ((32:Int)< (M:Int))=true:=(by simp;omega);have HE:Hid (EP=142):=ah (by
     have h:=zX.out;rw [if_pos (by simp;omega)]at h;rw [Sv.out,h];rfl)
   clear t0 t1 t2;go_wp2_with fail
   exact qR.out 142 _ HE.out (by decide) HB0.out
 have abv:Hid ((1<=N/\ N<=16)/\ M<=32):=ah (by omega);have z0:decide ((N:Int)<1)=false:=(by simp;omega);have z1:decide ((16:Int)< (N:Int))=false:=(by simp;omega);have z2:decide ((32:Int)< (M:Int))=false:=(by simp;omega);have HE2:Hid (EC=eU (dK (fun y=>jX y.g) ys) (dK (fun z=>jg (kM z)) dH)):=ah (by
   have h:=zX.out;rw [if_neg (by simp;omega)]at h;exact h)
 clear t0 t1 t2 zX;go_upto_region 4 with fail
 rw [<-Yb.out, <-HG.out];clear Yb HG z0 z1 z2 x0 x1 x2;go_upto_region 5 with(go_at_call 60;refine(fO 1111705159 (by decide) 4 (by decide) (by decide) _ HS.out).mono ?_;rintro y w1 ⟨rfl,hs⟩;replace HS:=ah hs;clear hs)
 go_upto_region 6 with(go_at_call 60;refine(fO 1 (by decide) 2 (by decide) (by decide) _ HS.out).mono ?_;rintro y w1 ⟨rfl,hs⟩;replace HS:=ah hs;clear hs)
 have cx:=(HK.out _ _ _ _ HS.out).2.1;have hw:=HWR.out.1;go_upto_region 7 with(go_at_call 60;refine(fO (N:Int) (by omega) 2 (by decide) (by decide) _ HS.out).mono ?_;rintro y w1 ⟨rfl,hs⟩;replace HS:=ah hs;clear hs)
 clear cx hw;have cx:=(HK.out _ _ _ _ HS.out).2.2;have hw:=HWR.out.2.1;go_upto_region 8 with(go_at_call 60;refine(fO (M:Int) (by omega) 2 (by decide) (by decide) _ HS.out).mono ?_;rintro y w1 ⟨rfl,hs⟩;replace HS:=ah hs;clear hs)
 clear cx hw;go_upto_region 9 with(go_at_call 60;refine(fO 0 (by decide) 2 (by decide) (by decide) _ HS.out).mono ?_;rintro y w1 ⟨rfl,hs⟩;replace HS:=ah hs;clear hs)
 have cx:=(HK.out _ _ _ _ HS.out).1;have hw:=HWR.out.2.2;go_upto_region 10 with(go_at_call 60;refine(fO vn alC.out 4 (by decide) (by decide) _ HS.out).mono ?_;rintro y w1 ⟨rfl,hs⟩;replace HS:=ah hs;clear hs)
 clear cx hw;obtain⟨LA,hLA⟩:=aqx ([]++be 4 (1111705159:Int).toNat++be 2 (1:Int).toNat++be 2 (N:Int).toNat++be 2 (M:Int).toNat++be 2 (0:Int).toNat++be 4 vn.toNat);replace HS:Hid (WS V2 none g LA 16 0 w1):=ah (by rw [hLA];exact HS.out);have Sr:Hid (LA=be 4 1111705159++(be 2 1++(be 2 N++(be 2 M++(be 2 0++be 4 vn.toNat))))):=ah (by rw [hLA];simp);clear hLA;have cx:=(HK.out _ _ _ _ HS.out).2.1;go_wp2_with fail
 clear cx;go_loopw [6,55] (fun _ j W=>∃k:Nat,k<=N/\ j= .int .i64 k/\ Hid (WS V2 none g (LA++(ys.take k).flatMap (fun y=>nZ y.g)) (16+3000*k) 0 W)/\ Hid (dK (fun y=>jX y.g) (ys.take k)=0)) (fun _ j _=>N-(intOf j).toNat)
 case atStart=>exact⟨0,aB _,rfl,ah (HS.out.any (fun _=>by simp) (by omega)),ah rfl⟩
 case round=>
   obtain⟨k,hk,rfl,rC,HE0⟩:=hrel;obtain⟨W,hW⟩:=aqx wr;subst hW;clear HS;by_cases hlt:k<N
   · have hki:(k:Int)< (N:Int):=by omega
     have hlt2:k<ys.length:=(by have:=HLEN.out.1;omega);obtain⟨a,p,ra,hp,hpb,hcp⟩:=(HR.out _ _ _ _ rC.out).1.row.at hlt2;subst ra;obtain⟨y,hy⟩:=aqx (ys[k]);have hgr:qI W g y:=(by rw [hy];exact(HR.out _ _ _ _ rC.out).1.all _ (ay _));have hyb:=Jl.out.1 y (by rw [hy];exact ay _);rw [<-hy]at hcp;have Zi:Hid ((ys.take (k+1)).flatMap (fun y=>nZ y.g)=(ys.take k).flatMap (fun y=>nZ y.g)++nZ y.g):=ah (by rw [sU _ ys k hlt2, <-hy]);have Fe:Hid (dK (fun y=>jX y.g) (ys.take (k+1))=jX y.g):=ah (by rw [vO _ ys k hlt2, <-hy,HE0.out];rfl);obtain⟨X,hX⟩:=aqx ((W.alloc (.cells (vec 79 (aT vw)) 63)).setRow W.heap.size (vec 79 (aT y)));have bX:Below W.heap.size W X:=(by rw [hX];exact bg ((aC _ _).alloc (aj _) _) (aj _) _);have aX:aU X W.heap.size 63 79 (aT y):=(by rw [hX];exact(aU.new W _ _ _).row _);have HT:Hid (WS V2 none g (LA++(ys.take k).flatMap (fun y=>nZ y.g)) (16+3000*k) 0 X):=ah (rC.out.on bX);have gI:=ah hcp;have HGR:=ah (hgr.below (bX.mono (Nat.le_of_lt rC.out.ltW)));have H1:=ah hgr.one;have HX:=ah hX;have ou:=ah aX;have DU:=ah hyb;have apk:k<=15:=(by have:=abv.out;omega);have HKN:Hid (k+1<=N/\ N<=16):=ah (by have:=abv.out;omega);have BI:Hid (jX y.g≠0->dK (fun y=>jX y.g) ys=jX y.g):=ah (fun h=>by
       have:=vN (fun y:GV=>jX y.g) 0 ys (k+1) (by rw [Fe.out];exact h);rw [Fe.out]at this;exact this)
     clear hlt hlt2 hpb hcp hy hgr hyb hX bX aX rC HE0;go_upto_region 13 with(first
       |((with_reducible refine aqy (.load 63 _) ?_);refine bC rfl 63 _ rfl p rfl _ (aW gI.out Tryz.underlying63 rfl dU) ?_)
       |((with_reducible refine aqy (.store _ _ _) ?_);refine bD rfl 63 _ _ rfl _ rfl _ rfl (aS (aU.new W _ _ _) (aT y) dU (fC _ H1.out _)) ?_))
     rw [<-HX.out];clear HX;go_upto_region 14 with(first
       |((with_reducible refine aqy (.load 63 _) ?_);refine bM rfl 63 _ rfl _ rfl _ (aQ ou.out Tryz.underlying63 rfl dU) ?_)
       |(go_at_call 61;refine(QH y X HT.out HGR.out DU.out.1 DU.out.2 (by have:=HKN.out;omega)).mono ?_;rintro z w2 ⟨rfl,hs⟩;replace HT:=ah hs;clear hs))
     clear gI HGR H1 ou;obtain⟨E,hE⟩:=aqx (jX y.g);rw [<-hE,JA]at HT;rw [<-hE]at Fe BI;clear hE;obtain⟨fe,ff⟩:=HT.out.err;by_cases h0:E=0
     · subst h0
       have z1:(((0:Nat):Int) !=0)=false:=rfl;go_wp2_with fail
       go_roundw
       case rel=>exact⟨k+1,HKN.out.1,by go_num,ah (HT.out.any (fun _=>by rw [Zi.out];simp) (by omega)),Fe⟩
       case measure=>have:=HKN.out.1;simp [intOf];omega
     · have z1:((E:Int) !=0)=true:=bne_iff_ne.2 (by omega)
       have z2:¬ (E:Int)=0:=(by omega);have Ox:Hid (EP=E/\ E≠0):=ah ⟨by rw [Sv.out,HE2.out,BI.out h0,wJ h0,wJ h0],h0⟩;have HBY:=ah (aiI.out _ _ _ _ HT.out);clear h0;go_upto_region 15 with fail
       go_quiet (fail)
       go_wp2_with fail
       exact qR.out E _ Ox.out.1 Ox.out.2 (below_drewN HBY.out _)
   · obtain rfl:k=N:=by omega
     have hki:¬ (k:Int)< (k:Int):=(by omega);have hty:ys.take k=ys:=(by rw [List.take_of_length_le (by have:=HLEN.out.1;omega)]);rw [hty]at rC HE0;obtain⟨LB,hLB⟩:=aqx (LA++ys.flatMap (fun y=>nZ y.g));rw [<-hLB]at rC;have HLB:=ah hLB;have HSB:Hid (WS V2 none g LB 50000 0 W):=ah (rC.out.any (fun _=>rfl) (by have:=abv.out;omega));have HE3:Hid (EC=dK (fun z=>jg (kM z)) dH):=ah (by rw [HE2.out,HE0.out,JA]);have HMC:=ah abv.out.2;clear hty hLB hlt rC HE0 HE2 hk;go_upto_region 17 with fail
     have cx:=(HK.out _ _ _ _ HSB.out).2.2;go_wp2_with fail
     clear cx;go_loopw [8,75] (fun _ j W=>∃k:Nat,k<=M/\ j= .int .i64 k/\ Hid (WS V2 none g (LB++(dH.take k).flatMap kD) (50000+40*k) (dK (fun z=>jg (kM z)) (dH.take k)) W)) (fun _ j _=>M-(intOf j).toNat)
     case atStart=>exact⟨0,aB _,rfl,ah (HSB.out.any (fun _=>by simp) (by omega))⟩
     case round=>
       obtain⟨k,hk,rfl,rC⟩:=hrel;obtain⟨W,hW⟩:=aqx wr;subst hW;clear HSB;by_cases hlt:k<M
       · have hki:(k:Int)< (M:Int):=by omega
         have hlt2:k<dH.length:=(by have:=HLEN.out.2;omega);obtain⟨a,p,ra,hp,hpb,hcp⟩:=(HR.out _ _ _ _ rC.out).2.at hlt2;subst ra;obtain⟨y,hy⟩:=aqx (dH[k]);have hyb:=Jl.out.2 y (by rw [hy];exact ay _);rw [<-hy]at hcp;have Zi:Hid ((dH.take (k+1)).flatMap kD=(dH.take k).flatMap kD++(be 8 y.pa.toNat++(be 8 y.size.toNat++ [y.a,y.b].flatMap jI))):=ah (by rw [sU _ dH k hlt2, <-hy];unfold kD;simp);have Fe:Hid (dK (fun z=>jg (kM z)) (dH.take (k+1))=eU (dK (fun z=>jg (kM z)) (dH.take k)) (dK (fun z=>jg (kL z)) [y.a,y.b])):=ah (by
           rw [vO _ dH k hlt2, <-hy];refine congrArg _ ?_;unfold kM jg dK dK;cases kL y.a<;>cases kL y.b<;>rfl)
         obtain⟨X,hX⟩:=aqx ((W.alloc (.cells (vec 8 (kJ Uf)) 47)).setRow W.heap.size (vec 8 (kJ y)));have bX:Below W.heap.size W X:=(by rw [hX];exact bg ((aC _ _).alloc (aj _) _) (aj _) _);have aX:aU X W.heap.size 47 8 (kJ y):=(by rw [hX];exact(aU.new W _ _ _).row _);obtain⟨b3,hS3,BJ,G7⟩:=rC.out.box bX;obtain⟨u,hu⟩:=aqx (W.heap.size);rw [<-hu]at aX BJ;have HF:Hid (∀ (l':By) (m' e':Nat) (Y:World),WS X b3 g l' m' e' Y->aU Y u 47 8 (kJ y)):=ah (fun l' m' e' Y hs=>hs.arr aX (BJ u (aj _)).1 (BJ u (aj _)).2);obtain⟨E,hE⟩:=aqx (dK (fun z=>jg (kM z)) (dH.take k));rw [<-hE]at hS3 Fe;have HT:Hid (WS X b3 g (LB++(dH.take k).flatMap kD) (50000+40*k) E X):=ah hS3;have HBK:=ah G7;have gI:=ah hcp;have HX:=ah hX;have HU:=ah hu;have DU:=ah hyb;have apl:k<=31:=(by have:=HMC.out;omega);have HKM:Hid (k+1<=M/\ M<=32):=ah (by have:=HMC.out;omega);clear hlt hlt2 hpb hcp hy hyb hX bX aX rC hS3 G7 BJ hu hE;go_upto_region 20 with(first
           |((with_reducible refine aqy (.load 47 _) ?_);refine bC rfl 47 _ rfl p rfl _ (aW gI.out Tryz.underlying47 rfl nJ) ?_)
           |((with_reducible refine aqy (.store _ _ _) ?_);refine bD rfl 47 _ _ rfl _ rfl _ rfl (aS (aU.new W _ _ _) (kJ y) nJ (vV _ _)) ?_))
         rw [<-HX.out, <-HU.out];clear HX HU gI;have cx:X.cell? ⟨u,0,none⟩=some (.int .u64 y.pa):=(HF.out _ _ _ _ HT.out).cell (i:=0) (by decide);go_upto_region 21 with(go_at_call 60;refine(fO y.pa DU.out.1.1 8 (by decide) (by have:=HKM.out;omega) _ HT.out).mono ?_;rintro z w2 ⟨rfl,hs⟩;replace HT:=ah hs;clear hs)
         clear cx;have cx:w2.cell? ⟨u,1,none⟩=some (.int .u64 y.size):=(HF.out _ _ _ _ HT.out).cell (i:=1) (by decide);go_upto_region 22 with(go_at_call 60;refine(fO y.size DU.out.2.1.1 8 (by decide) (by have:=HKM.out;omega) _ HT.out).mono ?_;rintro z w2 ⟨rfl,hs⟩;replace HT:=ah hs;clear hs)
         clear cx;have WZ:Hid (∀i,i<6->w2.cell? ((⟨u,2,none⟩:Addr).add i)=some (yG y.a y.b i)):=ah (fun i hi=>by
           rw [QG,(HF.out _ _ _ _ HT.out).cell (by omega),Nat.add_comm 2 i]
           rfl)
         obtain⟨LC,hLC⟩:=aqx (LB++(dH.take k).flatMap kD++be 8 y.pa.toNat++be 8 y.size.toNat);replace HT:Hid (WS X b3 g LC (50000+40*k+16) E w2):=ah (by rw [hLC];exact HT.out);have HLC:=ah hLC;clear hLC;go_wp2_with((with_reducible refine aqy (.load _ _) ?_);refine bC rfl 45 _ rfl ⟨u,2,none⟩ rfl _ (aW WZ.out Tryz.underlying45 rfl Zl) ?_)
         clear WZ;go_loopw [10,89] (fun _ j W=>∃i:Nat,i<=2/\ j= .int .i64 i/\ Hid (WS X b3 g (LC++([y.a,y.b].take i).flatMap jI) (50000+40*k+16+12*i) (eU E (dK (fun z=>jg (kL z)) ([y.a,y.b].take i))) W)) (fun _ j _=>2-(intOf j).toNat)
         case atStart=>exact⟨0,aB _,rfl,ah (by rw [show dK (fun z=>jg (kL z)) ([y.a,y.b].take 0)=0 from rfl,pI];exact HT.out.any (fun _=>by simp) (by omega))⟩
         case round=>
           obtain⟨i,hi,rfl,HTi⟩:=hrel;obtain⟨W2,hW2⟩:=aqx wr;subst hW2;clear HT;rcases(by omega:i=0∨i=1∨i=2)with rfl|rfl|rfl
           · obtain⟨z,hz⟩:=aqx (y.a)
             have Fh:Hid (∀W:World,(Instr.index 45 (.agg (vec 6 (yG y.a y.b))) (.int .i64 0)).run Tryz.prog W= .ok (.agg (vec 3 (dY z))) W):=ah (fun W=>by rw [hz];exact abt y.a y.b W);have hzb:EnB z:=(by rw [hz];exact DU.out.2.2.1);have HZL:Hid (([y.a,y.b].take 1).flatMap jI=([y.a,y.b].take 0).flatMap jI++(be 2 z.bK.toNat++(be 2 z.perm.toNat++be 8 z.fZ.toNat))):=ah (by rw [hz];simp [jI]);have HZE:Hid (eU E (dK (fun z=>jg (kL z)) ([y.a,y.b].take 1))=eU (eU (eU E (dK (fun z=>jg (kL z)) ([y.a,y.b].take 0))) (if inB z.bK 0 65535=true then 0 else 144)) (if inB z.perm 0 7=true then 0 else 144)):=ah (by
              rw [vO _ [y.a,y.b] 0 (by simp),show [y.a,y.b][0]=z from hz.symm, <-nH,nH _ (if inB z.bK 0 65535=true then 0 else 144)];refine congrArg _ ?_;unfold kL jg;cases inB z.bK 0 65535<;>cases inB z.perm 0 7<;>rfl)
             obtain⟨LE,OV⟩:=aqx (LC++([y.a,y.b].take 0).flatMap jI);obtain⟨E2,hE2⟩:=aqx (eU E (dK (fun z=>jg (kL z)) ([y.a,y.b].take 0)));rw [<-OV, <-hE2]at HTi;rw [<-hE2]at HZE;have Qg:=ah OV;obtain⟨X3,uF⟩:=aqx ((W2.alloc (.cells (vec 3 (dY Ue)) 44)).setRow W2.heap.size (vec 3 (dY z)));have bX3:Below W2.heap.size W2 X3:=(by rw [uF];exact bg ((aC _ _).alloc (aj _) _) (aj _) _);have aX3:aU X3 W2.heap.size 44 3 (dY z):=(by rw [uF];exact(aU.new W2 _ _ _).row _);obtain⟨b4,hS4,BK,G8⟩:=HTi.out.box bX3;obtain⟨u2,hu2⟩:=aqx (W2.heap.size);rw [<-hu2]at aX3 BK;have HF2:Hid (∀ (l':By) (m' e':Nat) (Y:World),WS X3 b4 g l' m' e' Y->aU Y u2 44 3 (dY z)):=ah (fun l' m' e' Y hs=>hs.arr aX3 (BK u2 (aj _)).1 (BK u2 (aj _)).2);have HT:Hid (WS X3 b4 g LE (50000+40*k+16+12*0) E2 X3):=ah hS4;have aen:=ah G8;have Aa:=ah uF;have HU2:=ah hu2;have HZB:=ah hzb;clear hz hzb OV hE2 uF bX3 aX3 HTi hS4 BK G8 hu2;have hix:=Fh.out W2;go_upto_region 25 with((with_reducible refine aqy (.store _ _ _) ?_);refine bD rfl 44 _ _ rfl _ rfl _ rfl (aS (aU.new W2 _ _ _) (dY z) nX (lM _ _)) ?_)
             rw [<-Aa.out, <-HU2.out];clear Aa HU2 Fh hix;have cx:X3.cell? ⟨u2,0,none⟩=some (.int .i64 z.bK):=(HF2.out _ _ _ _ HT.out).cell (i:=0) (by decide);go_upto_region 26 with(go_at_call 62;refine(o9 z.bK HZB.out.1 65535 2 (by decide) (by have:=HKM.out;omega) _ HT.out).mono ?_;rintro t w3 ⟨rfl,hs⟩;replace HT:=ah hs;clear hs)
             clear cx;have cx:w3.cell? ⟨u2,1,none⟩=some (.int .i64 z.perm):=(HF2.out _ _ _ _ HT.out).cell (i:=1) (by decide);go_upto_region 27 with(go_at_call 62;refine(o9 z.perm HZB.out.2.1 7 2 (by decide) (by have:=HKM.out;omega) _ HT.out).mono ?_;rintro t w3 ⟨rfl,hs⟩;replace HT:=ah hs;clear hs)
             clear cx;have cx:w3.cell? ⟨u2,2,none⟩=some (.int .u64 z.fZ):=(HF2.out _ _ _ _ HT.out).cell (i:=2) (by decide);go_wp2_with(go_at_call 60;refine(fO z.fZ HZB.out.2.2.1 8 (by decide) (by have:=HKM.out;omega) _ HT.out).mono ?_;rintro t w3 ⟨rfl,hs⟩;replace HT:=ah hs;clear hs)
             go_roundw
             case rel=>exact⟨1,by decide,by go_num,ah (by
              rw [HZE.out];exact(aen.out _ _ _ _ HT.out).any (fun _=>by rw [HZL.out,Qg.out];simp) (by omega))⟩
             case measure=>simp [intOf]
           · obtain⟨z,hz⟩:=aqx (y.b)
             have Fh:Hid (∀W:World,(Instr.index 45 (.agg (vec 6 (yG y.a y.b))) (.int .i64 1)).run Tryz.prog W= .ok (.agg (vec 3 (dY z))) W):=ah (fun W=>by rw [hz];exact abu y.a y.b W);have hzb:EnB z:=(by rw [hz];exact DU.out.2.2.2);have HZL:Hid (([y.a,y.b].take 2).flatMap jI=([y.a,y.b].take 1).flatMap jI++(be 2 z.bK.toNat++(be 2 z.perm.toNat++be 8 z.fZ.toNat))):=ah (by rw [hz];simp [jI]);have HZE:Hid (eU E (dK (fun z=>jg (kL z)) ([y.a,y.b].take 2))=eU (eU (eU E (dK (fun z=>jg (kL z)) ([y.a,y.b].take 1))) (if inB z.bK 0 65535=true then 0 else 144)) (if inB z.perm 0 7=true then 0 else 144)):=ah (by
              rw [vO _ [y.a,y.b] 1 (by simp),show [y.a,y.b][1]=z from hz.symm, <-nH,nH _ (if inB z.bK 0 65535=true then 0 else 144)];refine congrArg _ ?_;unfold kL jg;cases inB z.bK 0 65535<;>cases inB z.perm 0 7<;>rfl)
             obtain⟨LE,OV⟩:=aqx (LC++([y.a,y.b].take 1).flatMap jI);obtain⟨E2,hE2⟩:=aqx (eU E (dK (fun z=>jg (kL z)) ([y.a,y.b].take 1)));rw [<-OV, <-hE2]at HTi;rw [<-hE2]at HZE;have Qg:=ah OV;obtain⟨X3,uF⟩:=aqx ((W2.alloc (.cells (vec 3 (dY Ue)) 44)).setRow W2.heap.size (vec 3 (dY z)));have bX3:Below W2.heap.size W2 X3:=(by rw [uF];exact bg ((aC _ _).alloc (aj _) _) (aj _) _);have aX3:aU X3 W2.heap.size 44 3 (dY z):=(by rw [uF];exact(aU.new W2 _ _ _).row _);obtain⟨b4,hS4,BK,G8⟩:=HTi.out.box bX3;obtain⟨u2,hu2⟩:=aqx (W2.heap.size);rw [<-hu2]at aX3 BK;have HF2:Hid (∀ (l':By) (m' e':Nat) (Y:World),WS X3 b4 g l' m' e' Y->aU Y u2 44 3 (dY z)):=ah (fun l' m' e' Y hs=>hs.arr aX3 (BK u2 (aj _)).1 (BK u2 (aj _)).2);have HT:Hid (WS X3 b4 g LE (50000+40*k+16+12*1) E2 X3):=ah hS4;have aen:=ah G8;have Aa:=ah uF;have HU2:=ah hu2;have HZB:=ah hzb;clear hz hzb OV hE2 uF bX3 aX3 HTi hS4 BK G8 hu2;have hix:=Fh.out W2;go_upto_region 25 with((with_reducible refine aqy (.store _ _ _) ?_);refine bD rfl 44 _ _ rfl _ rfl _ rfl (aS (aU.new W2 _ _ _) (dY z) nX (lM _ _)) ?_)
             rw [<-Aa.out, <-HU2.out];clear Aa HU2 Fh hix;have cx:X3.cell? ⟨u2,0,none⟩=some (.int .i64 z.bK):=(HF2.out _ _ _ _ HT.out).cell (i:=0) (by decide);go_upto_region 26 with(go_at_call 62;refine(o9 z.bK HZB.out.1 65535 2 (by decide) (by have:=HKM.out;omega) _ HT.out).mono ?_;rintro t w3 ⟨rfl,hs⟩;replace HT:=ah hs;clear hs)
             clear cx;have cx:w3.cell? ⟨u2,1,none⟩=some (.int .i64 z.perm):=(HF2.out _ _ _ _ HT.out).cell (i:=1) (by decide);go_upto_region 27 with(go_at_call 62;refine(o9 z.perm HZB.out.2.1 7 2 (by decide) (by have:=HKM.out;omega) _ HT.out).mono ?_;rintro t w3 ⟨rfl,hs⟩;replace HT:=ah hs;clear hs)
             clear cx;have cx:w3.cell? ⟨u2,2,none⟩=some (.int .u64 z.fZ):=(HF2.out _ _ _ _ HT.out).cell (i:=2) (by decide);go_wp2_with(go_at_call 60;refine(fO z.fZ HZB.out.2.2.1 8 (by decide) (by have:=HKM.out;omega) _ HT.out).mono ?_;rintro t w3 ⟨rfl,hs⟩;replace HT:=ah hs;clear hs)
             go_roundw
             case rel=>exact⟨2,by decide,by go_num,ah (by
              rw [HZE.out];exact(aen.out _ _ _ _ HT.out).any (fun _=>by rw [HZL.out,Qg.out];simp) (by omega))⟩
             case measure=>simp [intOf]
           · go_wp2_with fail
             go_roundw
             case rel=>exact⟨k+1,HKM.out.1,by go_num,ah (by
              rw [Fe.out];refine(HBK.out _ _ _ _ HTi.out).any (fun _=> ?_) (by omega);rw [Zi.out,HLC.out]
              simp)⟩
             case measure=>have:=HKM.out.1;simp [intOf];omega
       · obtain rfl:k=M:=by omega
         have hki:¬ (k:Int)< (k:Int):=(by omega);have hty:dH.take k=dH:=(by rw [List.take_of_length_le (by have:=HLEN.out.2;omega)]);rw [hty, <-HE3.out]at rC;obtain⟨LD,hLD⟩:=aqx (LB++dH.flatMap kD);rw [<-hLD]at rC;have HLD:Hid (LD=LZ):=ah (by rw [hLD,HLB.out,Sr.out,Zg.out];simp);have HT:Hid (WS V2 none g LD 60000 EC W):=ah (rC.out.any (fun _=>rfl) (by have:=HMC.out;omega));clear hty hLD hlt rC HE3 hk HLB Sr Zg HR HK Jl HLEN;obtain⟨AR,cR,LR,-,c0,-,-,hl0,hl1,-,-⟩:=HT.out.open;obtain⟨NR,hNR⟩:=aqx (LR.length);rw [<-hNR]at c0;have HNR:Hid (EC=0->LZ.length=NR):=ah (fun h=>by rw [hNR,hl0 h,HLD.out]);clear hl0 hl1 hNR;obtain⟨r,hr⟩:=aqx (decide (NR<=65536));have hr2:decide ((NR:Int)<=65536)=r:=(by rw [hr];rw [Bool.eq_iff_iff];simp;omega);have HR1:Hid (EP=eU EC (if r=true then 0 else 2)):=ah (by
           rw [Sv.out];by_cases h0:EC=0
           · rw [HNR.out h0,hr]
             simp
           · rw [wJ h0,wJ h0])
         clear hr;go_upto_region 31 with(go_at_call 63;refine(nI r 2 (by decide) _ HT.out).mono ?_;rintro z w2 ⟨rfl,hs⟩;replace HT:=ah hs;clear hs)
         clear hr2 c0;rw [<-HR1.out]at HT;obtain⟨fe,ff⟩:=HT.out.err;have HBY:=ah (aiI.out _ _ _ _ HT.out);by_cases h0:EP=0
         · subst h0
           obtain⟨A3,c3,k0,ko⟩:=HOW.out _ _ _ HT.out HLD.out;have HKO:=ah ko;have z1:(((0:Nat):Int) !=0)=false:=rfl;clear ko;go_wp2_with fail
           exact je.out _ _ (by first|rfl|trivial) HKO.out HBY.out
         · have z1:((EP:Int) !=0)=true:=bne_iff_ne.2 (by omega)
           have z2:¬ (EP:Int)=0:=(by omega);have Ox:=ah h0;clear h0;go_upto_region 32 with fail
           go_quiet (fail)
           go_wp2_with fail
           exact qR.out EP _ rfl Ox.out (below_drewN HBY.out _)
open Go.RowKit
structure GC(Y:World)(B:Nat)(q:Addr)(g:Gs)(A1:Option Addr)(e1:Nat)(A2:Option Addr)(e2:Nat)(A3:Option Addr)(e3:Nat)(A4:Option Addr)(e4:Nat):Prop where
 name:Y.cell? q=some (.string (strOf g.name))
 gX:Y.cell? ⟨q.block,q.off+4,none⟩=some (.int .u32 g.gX)
 entry:Y.cell? ⟨q.block,q.off+5,none⟩=some (.int .u64 g.entry)
 Ac:Y.cell? ⟨q.block,q.off+6,none⟩=some (.int .u64 g.Ac)
 wv:Y.cell? ⟨q.block,q.off+75,none⟩=some (.slice A1 g.wins.length e1)
 dv:Y.cell? ⟨q.block,q.off+76,none⟩=some (.slice A2 g.dG.length e2)
 iv:Y.cell? ⟨q.block,q.off+77,none⟩=some (.slice A3 g.cO.length e3)
 sv:Y.cell? ⟨q.block,q.off+78,none⟩=some (.slice A4 g.strs.length e4)
 wins:bI 4 bG Y B A1 g.wins
 dG:bI 3 iC Y B A2 g.dG
 cO:bI 3 dV Y B A3 g.cO
 strs:bI 1 mP Y B A4 g.strs
theorem EL{x:Cf}{a c:Value}{V:World}{B:Nat}(hx:Ai V B x a c):∃ (A:Option Addr) (d:Nat) (A2:Option Addr) (d2:Nat),a= .slice A x.gs.length d/\ c= .slice A2 x.dH.length d2/\ (∀Y,Below B V Y->bI 8 kJ Y B A2 x.dH)/\
  ∀i (hi:i<x.gs.length),∃ (a0 q:Addr) (A1:Option Addr) (e1:Nat) (A2:Option Addr) (e2:Nat) (A3:Option Addr) (e3:Nat) (A4:Option Addr) (e4:Nat),A=some a0/\ a0.add (i*79)=q/\ ∀Y,Below B V Y->GC Y B q x.gs[i] A1 e1 A2 e2 A3 e3 A4 e4:=by
 obtain⟨⟨A,d,ys,rfl,hm,hr,-⟩,⟨A2,d2,rfl,hr2,-⟩⟩:=hx;refine⟨A,d,A2,d2,rfl,rfl,fun Y hY=>hr2.below hY,fun i hi=> ?_⟩;have hlen:ys.length=x.gs.length:=(by rw [<-hm,List.length_map]);have hiy:i<ys.length:=(by omega);have hg:ys[i].g=x.gs[i]:=(by simp [<-hm]);obtain⟨a0,q,rfl,hq,-,-⟩:=hr.row.at hiy;obtain⟨⟨A1,e1,f1,r1,-⟩,⟨A2,e2,f2,r2,-⟩,⟨A3,e3,f3,r3,-⟩,⟨A4,e4,f4,r4,-⟩⟩:=hr.all _ (ay hiy);rw [hg]at f1 f2 f3 f4 r1 r2 r3 r4;refine⟨a0,q,A1,e1,A2,e2,A3,e3,A4,e4,rfl,hq,fun Y hY=> ?_⟩;obtain⟨a',q',ea,hq',-,hcp⟩:=(hr.below hY).row.at hiy;injection ea with ea
 subst ea;rw [hq]at hq';subst hq';have w0:aT ys[i] 0= .string (strOf ys[i].g.name):=rfl;have w4:aT ys[i] 4= .int .u32 ys[i].g.gX:=rfl;have w5:aT ys[i] 5= .int .u64 ys[i].g.entry:=rfl;have w6:aT ys[i] 6= .int .u64 ys[i].g.Ac:=rfl;have w75:aT ys[i] 75=ys[i].wv:=rfl;have w76:aT ys[i] 76=ys[i].dv:=rfl;have w77:aT ys[i] 77=ys[i].iv:=rfl;have w78:aT ys[i] 78=ys[i].sv:=rfl;rw [hg]at w0 w4 w5 w6;exact⟨(show Y.cell? q=some _ by have h:=hcp 0 (by decide);rw [show q.add 0=q by simp [Addr.add]]at h;exact h.trans (congrArg some w0)),(hcp 4 (by decide)).trans (congrArg some w4),(hcp 5 (by decide)).trans (congrArg some w5),(hcp 6 (by decide)).trans (congrArg some w6),
  (hcp 75 (by decide)).trans (congrArg some (w75.trans f1)),(hcp 76 (by decide)).trans (congrArg some (w76.trans f2)),(hcp 77 (by decide)).trans (congrArg some (w77.trans f3)),(hcp 78 (by decide)).trans (congrArg some (w78.trans f4)),
  r1.below hY,r2.below hY,r3.below hY,r4.below hY⟩
structure Bd where
 r:Sp
 l:Sp
 cO:Int
 strs:Int
 gX:Int
def kH(b:Bd):Nat->Value
 |0=> .int .u64 (b.r.1:Int)
 |1=> .int .u64 (b.r.2:Int)
 |2=> .int .u64 (b.l.1:Int)
 |3=> .int .u64 (b.l.2:Int)
 |4=> .int .i64 b.cO
 |5=> .int .i64 b.strs
 |_=> .int .i64 b.gX
def gu(b:Bd)(ver:Int)(a c:Value)(s:Nat × Nat):Nat->Value:=fun i=>
 if i<7 then kH b i else if i<10 then eX ver a c (i-7)else if i=10 then .int .i64 (s.1:Int)else .int .i64 (s.2:Int)
def aZ(is:Bool)(r k:Nat)(s:Nat × Nat):Nat × Nat:=if is=false/\ s.1=0 then(r,k)else s
theorem eP(r k:Nat)(s:Nat × Nat):aZ true r k s=s:=if_neg (by simp)
theorem aep{w:World}{p:Nat}{t:TypeId}{b:Bd}{ver:Int}{a c:Value}{s:Nat × Nat}(h:aU w p t 12 (gu b ver a c s))(r k:Nat):
  aU ((w.setCell ⟨p,10,none⟩ (.int .i64 (r:Int))).setCell ⟨p,11,none⟩ (.int .i64 (k:Int))) p t 12 (gu b ver a c (r,k)):=by
 have h2:w.heap[p]?=some (.cells (vec 12 (gu b ver a c s)) t (0,0)):=h;unfold aU;have hv:vec 12 (gu b ver a c (r,k))=((vec 12 (gu b ver a c s)).setIfInBounds 10 (.int .i64 (r:Int))).setIfInBounds 11 (.int .i64 (k:Int)):=(by rfl);rw [hv];simp [World.setCell,Array.getElem?_modify,h2]
theorem vM(is:Bool)(r k:Nat)(p:Nat)(b:Bd)(ver:Int)(a c:Value)(s:Nat × Nat)(w:World)(h:aU w p 75 12 (gu b ver a c s)):
  Calls Tryz.prog 23 #[.pointer (some ⟨p,0,none⟩),.bool is,.int .i64 (r:Int),.int .i64 (k:Int)] w fun e w'=>e= .returned (.tuple #[])/\ aU w' p 75 12 (gu b ver a c (aZ is r k s))/\ Save p w w':=by
 obtain⟨s1,s2⟩:=s;have c10:w.cell? ⟨p,10,none⟩=some (.int .i64 (s1:Int)):=h.cell (i:=10) (by decide);cases is with
 |true=>
  go_enter Tryz.func23,Tryz.ntmps23;go_wp2
  go_end0;exact⟨rfl,by rw [eP];exact h,aI _ _⟩
 |false=>
  by_cases h0:s1=0
  · subst h0
    have HE:=ah (ak (aep h r k) (((aI p w).setCell 10 (.int .i64 (r:Int))).setCell 11 (.int .i64 (k:Int))));have hf:w.frozen? ⟨p,10,none⟩=false:=(by unfold aU at h;simp [World.frozen?,h]);have hf2:(w.setCell ⟨p,10,none⟩ (.int .i64 (r:Int))).frozen? ⟨p,11,none⟩=false:=(by unfold aU at h;simp [World.frozen?,World.setCell,Array.getElem?_modify,h]);have c11:w.cell? ⟨p,11,none⟩=some (.int .i64 (s2:Int)):=h.cell (i:=11) (by decide);clear h;go_enter Tryz.func23,Tryz.ntmps23;go_wp2
    go_end0;exact⟨rfl,HE.out⟩
  · have hz:((s1:Int)==0)=false:=by simpa using h0
    have hp:aZ false r k (s1,s2)=(s1,s2):=if_neg (by simp [h0]);have HE:=ah h;clear h h0;go_enter Tryz.func23,Tryz.ntmps23;go_wp2
    go_end0;exact⟨rfl,by rw [hp];exact HE.out,aI _ _⟩
open Go.ChangeShapes Go.WideShapes Go.ChangeAt Go.RowKit Go.Deep
section
variable {H : Type} {enc : TypeId × Value -> H} {W : World} {r : Reach} {base : Nat} {sp : Nat -> Bool} {held : Bool} {fuel : Nat}
theorem G9{L:List Value}{x:DataW H × List MemPlace}(hl:L.length=2)(h:DataW.trod enc Tryz.prog W base sp held fuel 24 L=some x):∃a b:Nat,L=[.int .u64 (a:Int),.int .u64 (b:Int)]/\ fit (a,b):=by
 obtain⟨y0,y1,n,-,-,h0,h1⟩:=trod_struct2 Tryz.underlying24 h;have hc1:Tryz.prog.cellsOf 22=1:=(by kernel_rfl);simp only [hc1]at h0 h1;rw [ng (by omega)]at h0 h1;obtain⟨x,e0,_,w0⟩:=DataW.trod_int Tryz.underlying22 h0;obtain⟨y,e1,_,w1⟩:=DataW.trod_int Tryz.underlying22 h1;have b0:=bounds_u64 w0;have b1:=bounds_u64 w1;obtain⟨a,rfl⟩:=au b0.1;obtain⟨b,rfl⟩:=au b1.1
 match L,hl with
 | [c0,c1],_=>
  simp at e0 e1;exact⟨a,b,by rw [e0,e1],by constructor<;>simp only<;>omega⟩
theorem aah{v:Value}{d:DataW H}{ps:List MemPlace}(hv:Value.okWide Tryz.prog W r base 26 v)(h:DataW.Trod enc Tryz.prog W 0 (fun _=>true) true 26 v d ps):
  ∃b:Bd,v= .agg (vec 7 (kH b))/\ fit b.r/\ fit b.l:=by
 have hs:=Tryz.underlying26;obtain⟨cs,rfl,hsz⟩:=okWide_struct hs hv;have hC:Tryz.prog.cellsOf 26=7:=(by kernel_rfl);have hS:Tryz.prog.cellsOf 24=2:=(by kernel_rfl);have hI:Tryz.prog.cellsOf 3=1:=(by kernel_rfl);rw [hC]at hsz;obtain⟨fuel,hf⟩:=h;have hcs:(Value.agg cs).cells.toList=cs.toList:=rfl;rw [hcs]at hf;obtain⟨xs,n,-,-,-,hlen,hg⟩:=DataW.trod_struct hs hf
 match xs,hlen with
 | [y0,y1,y2,y3,y4],_=>
  have h0:DataW.trod enc Tryz.prog W 0 (fun _=>true) true n 24 ((cs.toList.drop 0).take (Tryz.prog.cellsOf 24))=some y0:=hg 0 _ rfl;have h1:DataW.trod enc Tryz.prog W 0 (fun _=>true) true n 24 ((cs.toList.drop 2).take (Tryz.prog.cellsOf 24))=some y1:=hg 1 _ rfl;have h2:DataW.trod enc Tryz.prog W 0 (fun _=>true) true n 3 ((cs.toList.drop 4).take (Tryz.prog.cellsOf 3))=some y2:=hg 2 _ rfl;have h3:DataW.trod enc Tryz.prog W 0 (fun _=>true) true n 3 ((cs.toList.drop 5).take (Tryz.prog.cellsOf 3))=some y3:=hg 3 _ rfl;have h4:DataW.trod enc Tryz.prog W 0 (fun _=>true) true n 3 ((cs.toList.drop 6).take (Tryz.prog.cellsOf 3))=some y4:=hg 4 _ rfl;simp only [hS,hI]at h0 h1 h2 h3 h4;have hL:cs.toList.length=7:=(by simpa using hsz);rw [ng (by omega)]at h2 h3 h4;obtain⟨r1,r2,e0,hr⟩:=G9 (by simp [hsz]) h0;obtain⟨l1,l2,e1,hl⟩:=G9 (by simp [hsz]) h1;obtain⟨i,e2,_,w2⟩:=DataW.trod_int Tryz.underlying3 h2;obtain⟨s,e3,_,w3⟩:=DataW.trod_int Tryz.underlying3 h3;obtain⟨c,e4,_,w4⟩:=DataW.trod_int Tryz.underlying3 h4;have b2:=bounds_i64 w2;have b3:=bounds_i64 w3;have b4:=bounds_i64 w4;obtain⟨L⟩:=cs
  match L,hsz with
  | [c0,c1,c2,c3,c4,c5,c6],_=>
   simp at e0 e1 e2 e3 e4;obtain⟨rfl,rfl⟩:=e0;obtain⟨rfl,rfl⟩:=e1;subst e2 e3 e4;exact⟨⟨(r1,r2),(l1,l2),i,s,c⟩,rfl,hr,hl⟩
end
end Go.Proofs.YtkaipknkjocfiaaGreat
