import Derived.Deep.CutRange
import Derived.BigQuiet
import Derived.Test.YtkaipknkjocfiaaGreatZd21
set_option maxRecDepth 100000
set_option maxHeartbeats 64000000
namespace Go.Proofs.YtkaipknkjocfiaaGreat
open Go.RowKit
attribute [local go_sem ↓ high] oZ xE
def lI(x:Cf):List (List Int):=x.gs.map fun u=>u.cO.map Ir.number
def lS(x:Cf):List (List Int):=x.gs.map Gs.strs
theorem YX(x:Cf){k:Nat}(hk:k<x.gs.length):(lI x).getD k []=x.gs[k].cO.map Ir.number:=by
 unfold lI;rw [List.getD_eq_getElem?_getD,List.getElem?_map,aF hk];rfl
theorem YZ(x:Cf){k:Nat}(hk:k<x.gs.length):(lS x).getD k []=x.gs[k].strs:=by
 unfold lS;rw [List.getD_eq_getElem?_getD,List.getElem?_map,aF hk];rfl
def Oy(ls:List (List Int))(g i k:Nat)(v:Int)(j:Nat):Bool:=(decide (k=g)&&decide (i<=j))|| !((ls.getD k [])[j]?==some v)
def Tq(ls:List (List Int))(g i:Nat)(v:Int)(k:Nat):Bool:=(List.range (ls.getD k []).length).all (Oy ls g i k v)
theorem KG{Y:World}{p:Nat}{t:TypeId}{b:Bd}{ver:Int}{C D:Value}{s:Nat × Nat}(h:aU Y p t 12 (gu b ver C D s)):Y.cell? ⟨p,4,none⟩=some (.int .i64 b.cO):=h.cell (i:=4) (by decide)
theorem abk{Y:World}{p:Nat}{t:TypeId}{b:Bd}{ver:Int}{C D:Value}{s:Nat × Nat}(h:aU Y p t 12 (gu b ver C D s)):Y.cell? ⟨p,5,none⟩=some (.int .i64 b.strs):=h.cell (i:=5) (by decide)
theorem aix{Y:World}{p:Nat}{t:TypeId}{b:Bd}{ver:Int}{C D:Value}{s:Nat × Nat}(h:aU Y p t 12 (gu b ver C D s)):Y.cell? ⟨p,8,none⟩=some C:=h.cell (i:=8) (by decide)
theorem Vw{b:Bd}(h:sH b=true):0<=b.strs/\ b.strs<=256:=by
 unfold sH Gu at h;simp only [beq_iff_eq]at h
 split at h
 · rename_i hc
   simp only [wS,Bool.and_eq_true,decide_eq_true_eq]at hc;omega
 · cases h
theorem and_eq{D E:Nat}(hD:D<=4294967295)(hE:E=D% 2):bits .and .u64 (D:Int) 1=(E:Int):=by
 subst hE;rw [show(1:Int)=((1:Nat):Int)from rfl,u64_and_nat D 1 (by omega) (by omega)]
 norm_cast
 simp [Nat.and_one_is_mod]
theorem Qz:Y2:=fun x a c b p B g s w hg hx hB hb hf hr hl hft her h=>by
 have hg:g<x.gs.length:=hg;obtain⟨hx1,A,d,ys,ha,hm,hrw,hcap⟩:=hx;have hBw:B<=w.heap.size:=aA hB (Nat.le_of_lt h.lt);have hpw:p<w.heap.size:=h.lt;have hlen:ys.length=x.gs.length:=(by rw [<-hm,List.length_map]);have hny:g<ys.length:=(by omega);obtain⟨a0,q,ea,hq,-,hcp⟩:=hrw.row.at hny;have HGK:Hid (∀k (hk:k<x.gs.length),∃q3 A3 e3 A4 e4,a0.add (k*79)=q3/\ ∀Y,Save p w Y->(Y.cell? ⟨q3.block,q3.off+77,none⟩=some (.slice A3 x.gs[k].cO.length e3)/\ bI 3 dV Y B A3 x.gs[k].cO)/\ (Y.cell? ⟨q3.block,q3.off+78,none⟩=some (.slice A4 x.gs[k].strs.length e4)/\ bI 1 mP Y B A4 x.gs[k].strs)):=ah fun k hk=>by
  obtain⟨A',d',A2',d2',e1,-,-,hgu⟩:=EL hx1;obtain⟨b0,q3,A1,e1',A2,e2',A3,e3',A4,e4',h1,h2,h3⟩:=hgu k hk;rw [ha]at e1;injection e1 with e1
  rw [<-e1,ea]at h1;injection h1 with h1
  rw [h1];refine⟨q3,A3,e3',A4,e4',h2,fun Y hY=> ?_⟩;have h:=h3 Y (hY.below hB hBw);exact⟨⟨h.iv,h.cO⟩,h.sv,h.strs⟩
 obtain⟨y,hy⟩:=aqx (ys[g]);rw [<-hy]at hcp;have hyg:y.g=x.gs[g]:=(by rw [hy];simp [<-hm]);have hgr:qI w B y:=(by rw [hy];exact hrw.all _ (ay _));obtain⟨t,ht⟩:=aqx (x.gs[g]);obtain⟨A3,e3,w3,hrow3,-⟩:=hgr.ir;obtain⟨A4,e4,w4,hrow4,-⟩:=hgr.st;rw [hyg, <-ht]at w3 hrow3 w4 hrow4;have wY:Hid (∀Y,Save p w Y->bI 3 dV Y B A3 t.cO/\ bI 1 mP Y B A4 t.strs):=(ah fun Y hY=>⟨hrow3.below (hY.below hB hBw),hrow4.below (hY.below hB hBw)⟩);have hP:wC b x g s=aZ (Ba b x g t) 9 g (aZ (yX b x g t) 8 g s):=(by unfold wC;rw [aF hg, <-ht]);rw [hP];have htb:=hb.gs _ (ay hg);have hfw:=jZ ((iI hf).2.2 _ (ay hg));have hpo:=Qj (zO her _ (ay hg));rw [<-ht]at htb hfw hpo;have Yi:∀v∈t.cO,0<=v.cpu/\ v.cpu<=65535:=fun v hv=>by
  have:=hpo.cO v hv;unfold jv inB at this;simp at this;omega
 have Ky:=ah htb;have HPM:=ah Yi;have Em:Hid (∀u∈x.gs,BA u=true):=ah (iI hf).2.2;have HM:Hid (∀is (r:Nat) q W,aU W p 75 12 (gu b x.ver a c q)->Calls Tryz.prog 23 #[.pointer (some ⟨p,0,none⟩),.bool is,.int .i64 (r:Int),.int .i64 (g:Int)] W fun e w'=>e= .returned (.tuple #[])/\ aU w' p 75 12 (gu b x.ver a c (aZ is r g q))/\ Save p W w'):=ah (fun is r q W hW=>vM is r g p b x.ver a c q W hW);obtain⟨n3,hn3⟩:=aqx (t.cO.length);obtain⟨n4,hn4⟩:=aqx (t.strs.length);have aoX:n3<=70:=(by rw [hn3];exact hfw.2.2.1);have aoY:n4<=40:=(by rw [hn4];exact hfw.2.2.2.1);rw [<-hn3]at w3;rw [<-hn4]at w4;have HN:=ah (ak hn3 hn4);have Ko:=ah hgr.one;have gI:=ah hcp;obtain⟨NG,xu⟩:=aqx (x.gs.length);have RS:Hid (∀Y t,aU Y p 75 12 (gu b x.ver a c t)->Y.cell? ⟨p,8,none⟩=some (.slice (some a0) NG d)):=ah fun Y t hY=>by rw [xu, <-ea, <-ha];exact aix hY
 have c8:=RS.out w s h;have hgi:(g:Int)< (NG:Int):=(by omega);have HGX:Hid (g<x.gs.length):=ah hg;have aio:g<=20:=(by have:=(iI hf).1;omega);have hgN:g<NG:=(by omega);have anj:NG<=20:=(by have:=(iI hf).1;omega);have HG4:Hid (aT y 4= .int .u32 t.gX):=ah (by show Value.int _ _=_;rw [hyg, <-ht]);have aiy:=ah (ak w3 w4);have HH:=ah (ak h hpw);have HST:=ah (Vw hft);obtain⟨fI,hfI⟩:∃f:Nat->Bool,f=fun i=>match t.cO[i]? with|none=>true|some q=>Oz b t q&&yU (x.gs.map fun u=>u.cO.map Ir.number) g i q.number:=⟨_,rfl⟩
 have Z8:Hid ((∀j (hj:j<t.cO.length),fI j=(Oz b t t.cO[j]&&yU (lI x) g j t.cO[j].number))/\ (List.range n3).all fI=yX b x g t):=ah ⟨fun j hj=>by rw [hfI];simp only;rw [aF hj];rfl,by rw [hn3,hfI];rfl⟩;obtain⟨fS,hfS⟩:∃f:Nat->Bool,f=fun i=>match t.strs[i]? with|none=>true|some q=>decide (q<b.strs)&&yU (x.gs.map Gs.strs) g i q:=⟨_,rfl⟩
 have HFS:Hid ((∀j (hj:j<t.strs.length),fS j=(decide (t.strs[j]<b.strs)&&yU (lS x) g j t.strs[j]))/\ (List.range n4).all fS=Ba b x g t):=ah ⟨fun j hj=>by rw [hfS];simp only;rw [aF hj];rfl,by rw [hn4,hfS];rfl⟩;subst ea;clear hx1 ha hm hrw hcap hBw hpw hlen hny hcp hy hyg hgr ht hrow3 hrow4 hP htb hfw hpo Yi hr hl hn3 hn4 xu w3 w4 h hb hf hft her hfI hfS;go_enter Tryz.func28,Tryz.ntmps28;go_upto_region 1 with(first
  |((with_reducible refine aqy (.load 63 _) ?_);refine bC rfl 63 _ rfl q rfl _ (aW gI.out Tryz.underlying63 rfl dU) ?_)
  |((with_reducible refine aqy (.store 63 _ _) ?_);refine bD rfl 63 _ _ rfl _ rfl _ rfl (aS (aU.new w _ _ _) (aT y) dU (fC _ Ko.out _)) ?_))
 obtain⟨r4,hr4⟩:=aqx (w.heap.size);obtain⟨V,hX⟩:=aqx ((w.alloc (.cells (vec 79 (aT vw)) 63)).setRow w.heap.size (vec 79 (aT y)));have bx:Below w.heap.size w V:=(by rw [hX];exact bg ((aC _ _).alloc (aj _) _) (aj _) _);have ax:aU V r4 63 79 (aT y):=(by rw [hX,hr4];exact(aU.new w _ _ _).row _);rw [<-hX, <-hr4];have HK:Hid (aU V p 75 12 (gu b x.ver a c s)/\ aU V r4 63 79 (aT y)/\ Save p w V/\ r4≠p):=ah ⟨HH.out.1.under bx,ax,aH bx,by have:=HH.out.2;omega⟩;have c77:V.cell? ⟨r4,77,none⟩=some (.slice A3 n3 e3):=(ax.cell (i:=77) (by decide)).trans (congrArg some aiy.out.1);clear hX hr4 bx ax c8 gI hq hgi;go_upto_region 2 with fail
 clear c77;go_loopw [26] (fun v W=>∃j:Nat,j<=n3/\ v= .int .i64 j/\ Hid (aU W p 75 12 (gu b x.ver a c (aZ ((List.range j).all fI) 8 g s))/\ Save p V W)) (fun v _=>n3-(intOf v).toNat)
 case atStart=>exact⟨0,aB _,rfl,ah ⟨by rw [show(List.range 0).all fI=true from rfl,eP];exact HK.out.1,aI _ _⟩⟩
 case round=>
  obtain⟨j,hj,rfl,HR⟩:=hrel;obtain⟨W,hW⟩:=aqx wr;subst hW;by_cases hlt:j<n3
  · have hji:(j:Int)< (n3:Int):=by omega
    have hjl:j<t.cO.length:=(by have:=HN.out.1;omega);obtain⟨b1,q1,eb,hq1,-,hcp⟩:=(wY.out W (HK.out.2.2.1.trans HR.out.2)).1.at hjl;have hfj:=Z8.out.1 j hjl;have hvB:=Ky.out.cO _ (ay hjl);have KF:=HPM.out _ (ay hjl);obtain⟨v,hv⟩:=aqx (t.cO[j]);rw [<-hv]at hcp hfj hvB KF;obtain⟨cu,hcu⟩:=au KF.1;have ao0:cu<=65535:=(by omega);obtain⟨nu,hnu⟩:=aqx (v.number);obtain⟨C,hC⟩:=au Ky.out.gX.1;have hCb:C<=4294967295:=(by have:=Ky.out.gX.2;omega);obtain⟨IQ,hIQ⟩:=aqx (b.cO);obtain⟨z1,hz1⟩:=aqx (decide ((32:Int)<=nu));obtain⟨z2,hz2⟩:=aqx (decide (nu<IQ));obtain⟨z4,GK⟩:=aqx (decide ((cu:Int)<=31));obtain⟨z5,hz5⟩:=aqx (xk (C:Int) cu);have hib:Oz b t v=(z1&&(z2&&(z4&&z5))):=by
     unfold Oz;rw [<-hnu,hcu,hC, <-hIQ, <-hz1, <-hz2, <-GK,show((cu:Int)).toNat=cu from rfl, <-hz5,decide_eq_true (show(0:Int)<=(cu:Int) by omega),Bool.true_and]
    obtain⟨D,hD⟩:=aqx (C/2^cu);obtain⟨E,hE⟩:=aqx (D% 2);have HSH:Hid ((C:Int)/2^cu=(D:Int)):=ah (by rw [hD];norm_cast);have Wh:Hid (bits .and .u64 (D:Int) 1=(E:Int)):=ah (and_eq (by rw [hD];exact aA (Nat.div_le_self _ _) hCb) hE);have he5:((E:Int)==1)=z5:=by
     rw [hz5];unfold xk;refine Bool.eq_iff_iff.2 ?_;simp only [beq_iff_eq,decide_eq_true_eq];have h1:(C:Int)/2^cu=(D:Int):=(by rw [hD];norm_cast);rw [h1,hE];omega
    obtain⟨iB,hiB⟩:=aqx (Oz b t v);rw [<-hiB]at hib hfj;have HIB:=ah hib;have HIQ:Hid (some (Value.int .i64 b.cO)=some (.int .i64 IQ)):=ah (by rw [hIQ]);have xA:Hid (dV v 0= .int .i64 nu/\ dV v 1= .int .i64 (cu:Int)/\ aT y 4= .int .u32 (C:Int)):=ah ⟨by rw [hnu];rfl,by rw [<-hcu];rfl,by rw [HG4.out,hC]⟩;rw [<-hnu]at hfj;have Jw:=ah hfj;have hy1:decide ((32:Int)<=nu)=z1:=hz1.symm;have hy2:decide (nu<IQ)=z2:=hz2.symm;have hy3:decide ((cu:Int)<=31)=z4:=GK.symm;have alh:(0:Int)<=(cu:Int):=(by omega);have hwC:IntKind.u64.wrap (C:Int)=(C:Int):=(by rw [IntKind.wrap_u64];omega);have gI:=ah hcp;obtain⟨A0,hA0⟩:=aqx ((List.range j).all fI);rw [<-hA0]at HR;have Oo:=ah hA0;subst eb;clear hcp hfj hvB KF hv hcu hnu hC hz1 hz2 GK hz5 hib hA0 hjl hIQ hD hE hiB;go_upto_region 4 with(first
     |((with_reducible refine aqy (.load 65 _) ?_);refine bC rfl 65 _ rfl q1 rfl _ (aW gI.out Tryz.underlying65 rfl rJ) ?_)
     |((with_reducible refine aqy (.store 65 _ _) ?_);refine bD rfl 65 _ _ rfl _ rfl _ rfl (aS (aU.new W _ _ _) (dV v) rJ (Fg _ _)) ?_))
    obtain⟨r6,Xw⟩:=aqx (W.heap.size);obtain⟨X1,hX1⟩:=aqx ((W.alloc (.cells (vec 3 (dV zIr)) 65)).setRow W.heap.size (vec 3 (dV v)));have bx1:Below W.heap.size W X1:=(by rw [hX1];exact bg ((aC _ _).alloc (aj _) _) (aj _) _);have ax1:aU X1 r6 65 3 (dV v):=(by rw [hX1,Xw];exact(aU.new W _ _ _).row _);rw [<-hX1, <-Xw];have Eo:r6≠p:=(by have h1:=HR.out.1.lt;omega);have oC:Hid (∀Y,Save p X1 Y->Y.cell? ⟨r6,0,none⟩=some (.int .i64 nu)/\ Y.cell? ⟨r6,1,none⟩=some (.int .i64 (cu:Int))/\ Y.cell? ⟨r4,4,none⟩=some (.int .u32 (C:Int))):=ah fun Y hY=>by
     have h1:=ax1.save hY Eo;have h2:=(((HK.out.2.1.save HR.out.2 HK.out.2.2.2).under bx1).save hY HK.out.2.2.2).cell (i:=4) (by decide);rw [xA.out.2.2]at h2;rw [<-xA.out.1, <-xA.out.2.1];exact⟨h1.cell (i:=0) (by decide),h1.cell (i:=1) (by decide),h2⟩
    have qV:Hid (aU X1 p 75 12 (gu b x.ver a c (aZ A0 8 g s))):=ah (HR.out.1.under bx1);have mY:Hid (Save p V X1):=ah (HR.out.2.trans (aH bx1));clear hX1 Xw bx1 ax1 Eo gI xA HR hq1
    (try simp only [Act.put])
    go_cut []from 31 to 66 (fun wx=>Hid (aU wx p 75 12 (gu b x.ver a c (aZ (A0&&iB) 8 g s))/\ Save p X1 wx))
    case first=>
     cases z1
     case false=>
       have hn0:¬ (32:Int)<=nu:=(by simpa using hy1);have pO:Hid (Below X1.heap.size X1 X1.drew):=ah (below_drewN (aC _ _) 1);refine wp_region_held_drew (S:=fun Y=>(∃q,aU Y p 75 12 (gu b x.ver a c q))/\ Save p X1 Y) (by kernel_rfl) ⟨⟨_,(show aU X1.drew p 75 12 (gu b x.ver a c (aZ A0 8 g s))from qV.out)⟩,aH pO.out⟩ (fun hS=> ?_);obtain⟨Y0,hY0⟩:=aqx (X1.drew);have HB0:Hid (Below X1.heap.size X1 Y0):=ah (by rw [hY0];exact pO.out);rw [<-hY0]at hS⊢;clear hY0 pO;refine tP 0 ?_;refine tP 1 ?_;refine tP 2 (v:= .int .i64 nu) (hy:=by(intro W hW;have z0:=(oC.out W hW.2).1;clear hW;go_simp;(try with_reducible rfl))) ?_;refine tP 3 (v:= .bool false) ?_;refine tP 4 (v:= .bool false) ?_;refine sQ 5 ?_;refine sQ 6 ?_;refine sQ 7 ?_;refine sQ 8 ?_;refine sQ 9 ?_;refine sQ 10 ?_;refine sQ 11 ?_;refine sQ 12 ?_;refine tP 13 (v:= .bool false) ?_;refine tP 14 (v:= .bool false) ?_;refine sQ 15 ?_;refine sQ 16 ?_;refine sQ 17 ?_;refine tP 18 (v:= .bool false) ?_;refine tP 19 (v:= .bool false) ?_;refine sQ 20 ?_;refine sQ 21 ?_;refine sQ 22 ?_;refine tP 23 (v:= .bool false) ?_;refine tP 24 (v:= .bool false) ?_;refine sQ 25 ?_;refine sQ 26 ?_;refine sQ 27 ?_;refine sQ 28 ?_;refine sQ 29 ?_;refine sQ 30 ?_;refine sQ 31 ?_;refine sQ 32 ?_;refine tP 33 (v:= .bool false) ?_;refine tP 34 ?_;refine oQ 35 fun Ot ru=> ?_;go_simp;refine(HM.out false 8 _ _ (qV.out.under HB0.out)).mono ?_;rintro e uM ⟨rfl,ha,hs⟩;have bT:Hid (aU uM p 75 12 (gu b x.ver a c (aZ false 8 g (aZ A0 8 g s)))/\ Save p X1 uM):=ah ⟨ha,(aH HB0.out).trans hs⟩;refine ru _ _ ⟨⟨_,ha⟩,bT.out.2⟩ (fun Ou=> ?_);clear ha hs ru Ot;refine wpAnyH_done (by kernel_rfl) ?_ _;have GU:Hid (aU uM p 75 12 (gu b x.ver a c (aZ (A0&&iB) 8 g s))/\ Save p X1 uM):=ah (by
        have h1:iB=false:=HIB.out;have h2:=bT.out;rw [dP _ _ _ _ (by decide)]at h2;rw [h1];exact h2)
       go_wp2_with fail
       go_meet
       exact GU
     case true=>
       have hn0:(32:Int)<=nu:=(by simpa using hy1);cases z2
       case false=>
        have hn1:¬ (nu:Int)<IQ:=(by simpa using hy2);have pO:Hid (Below X1.heap.size X1 X1.drew):=ah (below_drewN (aC _ _) 1);refine wp_region_held_drew (S:=fun Y=>(∃q,aU Y p 75 12 (gu b x.ver a c q))/\ Save p X1 Y) (by kernel_rfl) ⟨⟨_,(show aU X1.drew p 75 12 (gu b x.ver a c (aZ A0 8 g s))from qV.out)⟩,aH pO.out⟩ (fun hS=> ?_);obtain⟨Y0,hY0⟩:=aqx (X1.drew);have HB0:Hid (Below X1.heap.size X1 Y0):=ah (by rw [hY0];exact pO.out);rw [<-hY0]at hS⊢;clear hY0 pO;refine tP 0 ?_;refine tP 1 ?_;refine tP 2 (v:= .int .i64 nu) (hy:=by(intro W hW;have z0:=(oC.out W hW.2).1;clear hW;go_simp;(try with_reducible rfl))) ?_;refine tP 3 (v:= .bool true) ?_;refine tP 4 (v:= .bool true) ?_;refine tP 5 ?_;refine tP 6 (v:= .int .i64 nu) (hy:=by(intro W hW;have z0:=(oC.out W hW.2).1;clear hW;go_simp;(try with_reducible rfl))) ?_;refine tP 7 ?_;refine tP 8 ?_;refine tP 9 ?_;refine tP 10 ?_;refine tP 11 (v:= .int .i64 IQ) (hy:=by(intro W hW;obtain⟨q5,hq5⟩:=hW.1;have z0:=(KG hq5).trans HIQ.out;clear hW hq5;go_simp;(try with_reducible rfl))) ?_;refine tP 12 (v:= .bool false) ?_;refine tP 13 (v:= .bool false) ?_;refine tP 14 (v:= .bool false) ?_;refine sQ 15 ?_;refine sQ 16 ?_;refine sQ 17 ?_;refine tP 18 (v:= .bool false) ?_;refine tP 19 (v:= .bool false) ?_;refine sQ 20 ?_;refine sQ 21 ?_;refine sQ 22 ?_;refine tP 23 (v:= .bool false) ?_;refine tP 24 (v:= .bool false) ?_;refine sQ 25 ?_;refine sQ 26 ?_;refine sQ 27 ?_;refine sQ 28 ?_;refine sQ 29 ?_;refine sQ 30 ?_;refine sQ 31 ?_;refine sQ 32 ?_;refine tP 33 (v:= .bool false) ?_;refine tP 34 ?_;refine oQ 35 fun Ot ru=> ?_;go_simp;refine(HM.out false 8 _ _ (qV.out.under HB0.out)).mono ?_;rintro e uM ⟨rfl,ha,hs⟩;have bT:Hid (aU uM p 75 12 (gu b x.ver a c (aZ false 8 g (aZ A0 8 g s)))/\ Save p X1 uM):=ah ⟨ha,(aH HB0.out).trans hs⟩;refine ru _ _ ⟨⟨_,ha⟩,bT.out.2⟩ (fun Ou=> ?_);clear ha hs ru Ot;refine wpAnyH_done (by kernel_rfl) ?_ _;have GU:Hid (aU uM p 75 12 (gu b x.ver a c (aZ (A0&&iB) 8 g s))/\ Save p X1 uM):=ah (by
          have h1:iB=false:=HIB.out;have h2:=bT.out;rw [dP _ _ _ _ (by decide)]at h2;rw [h1];exact h2)
        go_wp2_with fail
        go_meet
        exact GU
       case true=>
        have hn1:(nu:Int)<IQ:=(by simpa using hy2);cases z4
        case false=>
          have hn2:¬ (cu:Int)<=31:=(by simpa using hy3);have pO:Hid (Below X1.heap.size X1 X1.drew):=ah (below_drewN (aC _ _) 1);refine wp_region_held_drew (S:=fun Y=>(∃q,aU Y p 75 12 (gu b x.ver a c q))/\ Save p X1 Y) (by kernel_rfl) ⟨⟨_,(show aU X1.drew p 75 12 (gu b x.ver a c (aZ A0 8 g s))from qV.out)⟩,aH pO.out⟩ (fun hS=> ?_);obtain⟨Y0,hY0⟩:=aqx (X1.drew);have HB0:Hid (Below X1.heap.size X1 Y0):=ah (by rw [hY0];exact pO.out);rw [<-hY0]at hS⊢;clear hY0 pO;refine tP 0 ?_;refine tP 1 ?_;refine tP 2 (v:= .int .i64 nu) (hy:=by(intro W hW;have z0:=(oC.out W hW.2).1;clear hW;go_simp;(try with_reducible rfl))) ?_;refine tP 3 (v:= .bool true) ?_;refine tP 4 (v:= .bool true) ?_;refine tP 5 ?_;refine tP 6 (v:= .int .i64 nu) (hy:=by(intro W hW;have z0:=(oC.out W hW.2).1;clear hW;go_simp;(try with_reducible rfl))) ?_;refine tP 7 ?_;refine tP 8 ?_;refine tP 9 ?_;refine tP 10 ?_;refine tP 11 (v:= .int .i64 IQ) (hy:=by(intro W hW;obtain⟨q5,hq5⟩:=hW.1;have z0:=(KG hq5).trans HIQ.out;clear hW hq5;go_simp;(try with_reducible rfl))) ?_;refine tP 12 (v:= .bool true) ?_;refine tP 13 (v:= .bool true) ?_;refine tP 14 (v:= .bool true) ?_;refine tP 15 ?_;refine tP 16 (v:= .int .i64 (cu:Int)) (hy:=by(intro W hW;have z0:=(oC.out W hW.2).2.1;clear hW;go_simp;(try with_reducible rfl))) ?_;refine tP 17 (v:= .bool true) ?_;refine tP 18 (v:= .bool true) ?_;refine tP 19 (v:= .bool true) ?_;refine tP 20 ?_;refine tP 21 (v:= .int .i64 (cu:Int)) (hy:=by(intro W hW;have z0:=(oC.out W hW.2).2.1;clear hW;go_simp;(try with_reducible rfl))) ?_;refine tP 22 (v:= .bool false) ?_;refine tP 23 (v:= .bool false) ?_;refine tP 24 (v:= .bool false) ?_;refine sQ 25 ?_;refine sQ 26 ?_;refine sQ 27 ?_;refine sQ 28 ?_;refine sQ 29 ?_;refine sQ 30 ?_;refine sQ 31 ?_;refine sQ 32 ?_;refine tP 33 (v:= .bool false) ?_;refine tP 34 ?_;refine oQ 35 fun Ot ru=> ?_;go_simp;refine(HM.out false 8 _ _ (qV.out.under HB0.out)).mono ?_;rintro e uM ⟨rfl,ha,hs⟩;have bT:Hid (aU uM p 75 12 (gu b x.ver a c (aZ false 8 g (aZ A0 8 g s)))/\ Save p X1 uM):=ah ⟨ha,(aH HB0.out).trans hs⟩;refine ru _ _ ⟨⟨_,ha⟩,bT.out.2⟩ (fun Ou=> ?_);clear ha hs ru Ot;refine wpAnyH_done (by kernel_rfl) ?_ _;have GU:Hid (aU uM p 75 12 (gu b x.ver a c (aZ (A0&&iB) 8 g s))/\ Save p X1 uM):=ah (by
           have h1:iB=false:=HIB.out;have h2:=bT.out;rw [dP _ _ _ _ (by decide)]at h2;rw [h1];exact h2)
          go_wp2_with fail
          go_meet
          exact GU
        case true=>
          have hn2:(cu:Int)<=31:=(by simpa using hy3);have pO:Hid (Below X1.heap.size X1 X1.drew):=ah (below_drewN (aC _ _) 1);refine wp_region_held_drew (S:=fun Y=>(∃q,aU Y p 75 12 (gu b x.ver a c q))/\ Save p X1 Y) (by kernel_rfl) ⟨⟨_,(show aU X1.drew p 75 12 (gu b x.ver a c (aZ A0 8 g s))from qV.out)⟩,aH pO.out⟩ (fun hS=> ?_);obtain⟨Y0,hY0⟩:=aqx (X1.drew);have HB0:Hid (Below X1.heap.size X1 Y0):=ah (by rw [hY0];exact pO.out);rw [<-hY0]at hS⊢;clear hY0 pO;refine tP 0 ?_;refine tP 1 ?_;refine tP 2 (v:= .int .i64 nu) (hy:=by(intro W hW;have z0:=(oC.out W hW.2).1;clear hW;go_simp;(try with_reducible rfl))) ?_;refine tP 3 (v:= .bool true) ?_;refine tP 4 (v:= .bool true) ?_;refine tP 5 ?_;refine tP 6 (v:= .int .i64 nu) (hy:=by(intro W hW;have z0:=(oC.out W hW.2).1;clear hW;go_simp;(try with_reducible rfl))) ?_;refine tP 7 ?_;refine tP 8 ?_;refine tP 9 ?_;refine tP 10 ?_;refine tP 11 (v:= .int .i64 IQ) (hy:=by(intro W hW;obtain⟨q5,hq5⟩:=hW.1;have z0:=(KG hq5).trans HIQ.out;clear hW hq5;go_simp;(try with_reducible rfl))) ?_;refine tP 12 (v:= .bool true) ?_;refine tP 13 (v:= .bool true) ?_;refine tP 14 (v:= .bool true) ?_;refine tP 15 ?_;refine tP 16 (v:= .int .i64 (cu:Int)) (hy:=by(intro W hW;have z0:=(oC.out W hW.2).2.1;clear hW;go_simp;(try with_reducible rfl))) ?_;refine tP 17 (v:= .bool true) ?_;refine tP 18 (v:= .bool true) ?_;refine tP 19 (v:= .bool true) ?_;refine tP 20 ?_;refine tP 21 (v:= .int .i64 (cu:Int)) (hy:=by(intro W hW;have z0:=(oC.out W hW.2).2.1;clear hW;go_simp;(try with_reducible rfl))) ?_;refine tP 22 (v:= .bool true) ?_;refine tP 23 (v:= .bool true) ?_;refine tP 24 (v:= .bool true) ?_;refine tP 25 ?_;refine tP 26 (v:= .int .u32 (C:Int)) (hy:=by(intro W hW;have z0:=(oC.out W hW.2).2.2;clear hW;go_simp;(try with_reducible rfl))) ?_;refine tP 27 ?_;refine tP 28 ?_;refine tP 29 (v:= .int .i64 (cu:Int)) (hy:=by(intro W hW;have z0:=(oC.out W hW.2).2.1;clear hW;go_simp;(try with_reducible rfl))) ?_;refine tP 30 (v:= .int .u64 (D:Int)) (hy:=by(intro W hW;clear hW;have h1:=HSH.out;go_simp;(try with_reducible rfl))) ?_;refine tP 31 (v:= .int .u64 (E:Int)) (hy:=by(intro W hW;clear hW;have h1:=Wh.out;go_simp;(try with_reducible rfl))) ?_;refine tP 32 (v:= .bool z5) ?_;refine tP 33 (v:= .bool z5) ?_
          refine tP 34 ?_;refine oQ 35 fun Ot ru=> ?_;go_simp;refine(HM.out z5 8 _ _ (qV.out.under HB0.out)).mono ?_;rintro e uM ⟨rfl,ha,hs⟩;have bT:Hid (aU uM p 75 12 (gu b x.ver a c (aZ z5 8 g (aZ A0 8 g s)))/\ Save p X1 uM):=ah ⟨ha,(aH HB0.out).trans hs⟩;refine ru _ _ ⟨⟨_,ha⟩,bT.out.2⟩ (fun Ou=> ?_);clear ha hs ru Ot;refine wpAnyH_done (by kernel_rfl) ?_ _;have GU:Hid (aU uM p 75 12 (gu b x.ver a c (aZ (A0&&iB) 8 g s))/\ Save p X1 uM):=ah (by
           have h1:iB=z5:=HIB.out;have h2:=bT.out;rw [dP _ _ _ _ (by decide)]at h2;rw [h1];exact h2)
          go_wp2_with fail
          go_meet
          exact GU
    rename World=>w2
    have HW2:=hcut;clear hcut HSH Wh he5 hy1 hy2 hy3 alh hwC qV HIQ HIB;obtain⟨A1,hA1⟩:=aqx ((A0&&iB));rw [<-hA1]at HW2;have HA1:=ah hA1;obtain⟨fK,hfK⟩:=aqx (Tq (lI x) g j nu);have HFK:=ah hfK;clear hA1 hfK;go_wp2_with fail
    go_loopw [7] (fun v W=>∃k:Nat,k<=g+1/\ v= .int .i64 k/\ Hid (aU W p 75 12 (gu b x.ver a c (aZ (A1&&(List.range k).all fK) 8 g s))/\ Save p X1 W)) (fun v _=>g+1-(intOf v).toNat)
    case atStart=>exact⟨0,aB _,rfl,by simpa using HW2⟩
    case round=>
     clear HW2;obtain⟨k,hk,rfl,HR2⟩:=hrel;obtain⟨W3,hW3⟩:=aqx wr;subst hW3;by_cases hlk:k<=g
     · have hki:(k:Int)<=(g:Int):=by omega
       have hkx:k<x.gs.length:=(by have:=HGX.out;omega);have hkN:(k:Int)< (NG:Int):=(by omega);obtain⟨q3,A5,e5,A6,e6,hq3,h3⟩:=HGK.out k hkx;obtain⟨ks,hks⟩:=aqx (x.gs[k].cO);obtain⟨NK,Y3⟩:=aqx (ks.length);have ali:NK<=70:=(by rw [Y3,hks];exact(jZ (Em.out _ (ay hkx))).2.2.1);obtain⟨AK,eK,HGW⟩:∃AK eK,Hid (∀Y,Save p X1 Y->Y.cell? ⟨q3.block,q3.off+77,none⟩=some (.slice AK NK eK)/\ bI 3 dV Y B AK ks):=⟨_,_,ah fun Y hY=>by rw [Y3,hks];exact(h3 Y (HK.out.2.2.1.trans (mY.out.trans hY))).1⟩;obtain⟨fM,hfM⟩:=aqx (Oy (lI x) g j k nu);have ad7:Hid (fK k=(List.range NK).all fM):=ah (by rw [HFK.out,hfM];unfold Tq;rw [YX x hkx,List.length_map,Y3,hks]);obtain⟨ek,hek⟩:=aqx (decide (k=g));have HFM:Hid (∀m (hm:m<ks.length),fM m=((ek&&decide (j<=m))||(ks[m].number !=nu))):=ah fun m hm=>by
        rw [hfM,hek];unfold Oy;rw [YX x hkx, <-hks,List.getElem?_map,aF hm]
        rfl
       have hkg:((k:Int)==(g:Int))=ek:=(by rw [hek];exact Bool.eq_iff_iff.2 (by simp only [beq_iff_eq,decide_eq_true_eq];omega));have HNK:=ah Y3;obtain⟨A2,hA2⟩:=aqx ((A1&&(List.range k).all fK));rw [<-hA2]at HR2;have HA2:=ah hA2;clear h3 hks Y3 hfM hek hA2 hkx;have c8:=RS.out W3 _ HR2.out.1;have ck:=(HGW.out W3 HR2.out.2).1;go_wp2_with fail
       clear c8 ck hq3;go_loopw [82] (fun v W=>∃m:Nat,m<=NK/\ v= .int .i64 m/\ Hid (aU W p 75 12 (gu b x.ver a c (aZ (A2&&(List.range m).all fM) 8 g s))/\ Save p X1 W)) (fun v _=>NK-(intOf v).toNat)
       case atStart=>exact⟨0,aB _,rfl,by simpa using HR2⟩
       case round=>
        clear HR2;obtain⟨m,hm,rfl,HR3⟩:=hrel;obtain⟨W4,V9⟩:=aqx wr;subst V9;by_cases hlm:m<NK
        · have hmi:(m:Int)< (NK:Int):=by omega
          have hml:m<ks.length:=(by have:=HNK.out;omega);obtain⟨b5,q5,eb5,hq5,-,hcp⟩:=(HGW.out W4 HR3.out.2).2.at hml;have hfm:=HFM.out m hml;obtain⟨em,hem⟩:=aqx (decide (j<=m));have hjm:decide ((j:Int)<=(m:Int))=em:=(by rw [hem];exact Bool.eq_iff_iff.2 (by simp only [decide_eq_true_eq];omega));rw [<-hem]at hfm;obtain⟨u,hu⟩:=aqx (ks[m]);rw [<-hu]at hcp hfm;obtain⟨un,hun⟩:=aqx (u.number);obtain⟨en,hen⟩:=aqx ((un !=nu));rw [<-hun, <-hen]at hfm;have hen':(un !=nu)=en:=hen.symm;have QA:=ah hfm;have gI:=ah hcp;subst eb5;clear hcp hfm hem hu hen hml;go_upto_region 11 with(first
           |((with_reducible refine aqy (.load 65 _) ?_);refine bC rfl 65 _ rfl q5 rfl _ (aW gI.out Tryz.underlying65 rfl rJ) ?_)
           |((with_reducible refine aqy (.store 65 _ _) ?_);refine bD rfl 65 _ _ rfl _ rfl _ rfl (aS (aU.new W4 _ _ _) (dV u) rJ (Fg _ _)) ?_))
          obtain⟨r9,hr9⟩:=aqx (W4.heap.size);obtain⟨X2,hX2⟩:=aqx ((W4.alloc (.cells (vec 3 (dV zIr)) 65)).setRow W4.heap.size (vec 3 (dV u)));have Ep:Below W4.heap.size W4 X2:=(by rw [hX2];exact bg ((aC _ _).alloc (aj _) _) (aj _) _);have Jz:aU X2 r9 65 3 (dV u):=(by rw [hX2,hr9];exact(aU.new W4 _ _ _).row _);rw [<-hX2, <-hr9];have HU0:Hid (dV u 0= .int .i64 un):=ah (by rw [hun];rfl);have d9:X2.cell? ⟨r9,0,none⟩=some (.int .i64 un):=(by rw [<-HU0.out];exact Jz.cell (i:=0) (by decide));have HS2:Hid (Save p X1 X2):=ah (HR3.out.2.trans (aH Ep));have d6:=(oC.out X2 HS2.out).1;have QB:Hid (aU X2 p 75 12 (gu b x.ver a c (aZ (A2&&(List.range m).all fM) 8 g s))):=ah (HR3.out.1.under Ep);clear hX2 hr9 Ep Jz gI hun hq5 HU0;cases ek
          case false=>
           go_wp2_with(go_at_call 23;refine(HM.out en 8 _ _ QB.out).mono ?_;rintro e w7 ⟨rfl,ha,hs⟩;have HE:=ah (ak ha (HS2.out.trans hs));clear ha hs)
           rw [dP _ _ _ _ (by decide)]at HE;go_roundw
           case rel=>exact⟨m+1,by omega,by go_num,by rw [bn, <-Bool.and_assoc,QA.out];simpa using HE⟩
           case measure=>simp [intOf];omega
          case true=>
           cases em
           case false=>
             have hjn:¬ (j:Int)<=(m:Int):=(by simpa using hjm);go_wp2_with(go_at_call 23;refine(HM.out en 8 _ _ QB.out).mono ?_;rintro e w7 ⟨rfl,ha,hs⟩;have HE:=ah (ak ha (HS2.out.trans hs));clear ha hs)
             rw [dP _ _ _ _ (by decide)]at HE;go_roundw
             case rel=>exact⟨m+1,by omega,by go_num,by rw [bn, <-Bool.and_assoc,QA.out];simpa using HE⟩
             case measure=>simp [intOf];omega
           case true=>
             have hjn:(j:Int)<=(m:Int):=(by simpa using hjm);go_wp2_with(go_at_call 23;refine(HM.out true 8 _ _ QB.out).mono ?_;rintro e w7 ⟨rfl,ha,hs⟩;have HE:=ah (ak ha (HS2.out.trans hs));clear ha hs)
             rw [dP _ _ _ _ (by decide)]at HE;go_roundw
             case rel=>exact⟨m+1,by omega,by go_num,by rw [bn, <-Bool.and_assoc,QA.out];simpa using HE⟩
             case measure=>simp [intOf];omega
        · obtain rfl:m=NK:=by omega
          have HE:Hid (aU W4 p 75 12 (gu b x.ver a c (aZ (A1&&(List.range (k+1)).all fK) 8 g s))):=ah (by rw [bn, <-Bool.and_assoc, <-HA2.out,ad7.out];exact HR3.out.1);clear hkg;go_wp2_with fail
          go_roundw
          case rel=>exact⟨k+1,by omega,by go_num,ah ⟨HE.out,HR3.out.2⟩⟩
          case measure=>simp [intOf];omega
     · have hki:¬ (k:Int)<=(g:Int):=by omega
       have HKG:Hid (k=g+1):=ah (by omega);have HE:Hid (aU W3 p 75 12 (gu b x.ver a c (aZ ((List.range (j+1)).all fI) 8 g s))/\ Save p V W3):=ah ⟨by
        have h1:fI j=(iB&&(List.range (g+1)).all fK):=(by rw [Jw.out,HFK.out];rfl);rw [bn,h1, <-Oo.out, <-Bool.and_assoc, <-HA1.out, <-HKG.out];exact HR2.out.1,mY.out.trans HR2.out.2⟩
       go_wp2_with fail
       go_roundw
       case rel=>exact⟨j+1,by omega,by go_num,HE⟩
       case measure=>simp [intOf];omega
  · obtain rfl:n3=j:=by omega
    have hjj:¬ (n3:Int)< (n3:Int):=(by omega);obtain⟨s1,hs1⟩:=aqx (aZ (yX b x g t) 8 g s);rw [Z8.out.2, <-hs1]at HR;have YR:=ah hs1;have c78:W.cell? ⟨r4,78,none⟩=some (.slice A4 n4 e4):=((HK.out.2.1.save HR.out.2 HK.out.2.2.2).cell (i:=78) (by decide)).trans (congrArg some aiy.out.2);go_upto_region 14 with fail
    go_wp2_with fail
    clear c78 hjj hs1;go_loopw [110] (fun v W=>∃j:Nat,j<=n4/\ v= .int .i64 j/\ Hid (aU W p 75 12 (gu b x.ver a c (aZ ((List.range j).all fS) 9 g s1))/\ Save p V W)) (fun v _=>n4-(intOf v).toNat)
    case atStart=>exact⟨0,aB _,rfl,ah ⟨by rw [show(List.range 0).all fS=true from rfl,eP];exact HR.out.1,HR.out.2⟩⟩
    case round=>
     clear HR;obtain⟨j,hj2,rfl,HR⟩:=hrel;obtain⟨W,hW⟩:=aqx wr;subst hW;by_cases hlt:j<n4
     · have hji:(j:Int)< (n4:Int):=by omega
       have hjl:j<t.strs.length:=(by have:=HN.out.2;omega);obtain⟨b1,q1,eb,hq1,-,hcp⟩:=(wY.out W (HK.out.2.2.1.trans HR.out.2)).2.at hjl;have hfj:=HFS.out.1 j hjl;have hvB:=Ky.out.strs _ (ay hjl);obtain⟨v,hv⟩:=aqx (t.strs[j]);rw [<-hv]at hcp hfj hvB;obtain⟨qn,hqn⟩:=au hvB.1;have XY:qn<=4294967295:=(by have:=hvB.2;omega);obtain⟨SN,hSN⟩:=au HST.out.1;have hSb:SN<=256:=(by have:=HST.out.2;omega);obtain⟨iB,hiB⟩:=aqx (decide (qn<SN));rw [hqn,hSN,show decide ((qn:Int)< (SN:Int))=decide (qn<SN)from Bool.eq_iff_iff.2 (by simp only [decide_eq_true_eq];omega), <-hiB]at hfj;have Jw:=ah hfj;have hy1:decide (qn<SN)=iB:=hiB.symm;have hw1:IntKind.u64.wrap (qn:Int)=(qn:Int):=(by rw [IntKind.wrap_u64];omega);have hw2:IntKind.u64.wrap (SN:Int)=(SN:Int):=(by rw [IntKind.wrap_u64];omega);have d9:W.cell? q1=some (.int .u32 (qn:Int)):=(by have h:=hcp 0 (by decide);rw [show q1.add 0=q1 by simp [Addr.add]]at h;rw [<-hqn];exact h);rw [Nat.mul_one]at hq1;have c5:W.cell? ⟨p,5,none⟩=some (.int .i64 (SN:Int)):=(by rw [<-hSN];exact abk HR.out.1);obtain⟨A0,hA0⟩:=aqx ((List.range j).all fS);rw [<-hA0]at HR;have Oo:=ah hA0;subst eb;clear hcp hfj hvB hv hqn hSN hiB hA0 hjl;go_upto_region 18 with(go_at_call 23;refine(HM.out iB 9 _ _ HR.out.1).mono ?_;rintro e w2 ⟨rfl,ha,hs⟩;have HW2:=ah (ak ha (HR.out.2.trans hs));clear ha hs)
       rw [dP _ _ _ _ (by decide)]at HW2;clear d9 c5 hq1 hw1 hw2 hy1 HR;obtain⟨A1,hA1⟩:=aqx ((A0&&iB));rw [<-hA1]at HW2;have HA1:=ah hA1;obtain⟨fK,hfK⟩:=aqx (Tq (lS x) g j (qn:Int));have HFK:=ah hfK;clear hA1 hfK;go_wp2_with fail
       go_loopw [12] (fun v W=>∃k:Nat,k<=g+1/\ v= .int .i64 k/\ Hid (aU W p 75 12 (gu b x.ver a c (aZ (A1&&(List.range k).all fK) 9 g s1))/\ Save p V W)) (fun v _=>g+1-(intOf v).toNat)
       case atStart=>exact⟨0,aB _,rfl,by simpa using HW2⟩
       case round=>
        clear HW2;obtain⟨k,hk,rfl,HR2⟩:=hrel;obtain⟨W3,hW3⟩:=aqx wr;subst hW3;by_cases hlk:k<=g
        · have hki:(k:Int)<=(g:Int):=by omega
          have hkx:k<x.gs.length:=(by have:=HGX.out;omega);have hkN:(k:Int)< (NG:Int):=(by omega);obtain⟨q3,A5,e5,A6,e6,hq3,h3⟩:=HGK.out k hkx;obtain⟨ks,hks⟩:=aqx (x.gs[k].strs);obtain⟨NK,Y3⟩:=aqx (ks.length);have ali:NK<=40:=(by rw [Y3,hks];exact(jZ (Em.out _ (ay hkx))).2.2.2.1);obtain⟨AK,eK,HGW⟩:∃AK eK,Hid (∀Y,Save p V Y->Y.cell? ⟨q3.block,q3.off+78,none⟩=some (.slice AK NK eK)/\ bI 1 mP Y B AK ks):=⟨_,_,ah fun Y hY=>by rw [Y3,hks];exact(h3 Y (HK.out.2.2.1.trans ((aI _ _).trans hY))).2⟩;obtain⟨fM,hfM⟩:=aqx (Oy (lS x) g j k (qn:Int));have ad7:Hid (fK k=(List.range NK).all fM):=ah (by rw [HFK.out,hfM];unfold Tq;rw [YZ x hkx,Y3,hks]);obtain⟨ek,hek⟩:=aqx (decide (k=g));have HFM:Hid (∀m (hm:m<ks.length),fM m=((ek&&decide (j<=m))||(ks[m] !=(qn:Int)))):=ah fun m hm=>by
           rw [hfM,hek];unfold Oy;rw [YZ x hkx, <-hks,aF hm]
           rfl
          have hkg:((k:Int)==(g:Int))=ek:=(by rw [hek];exact Bool.eq_iff_iff.2 (by simp only [beq_iff_eq,decide_eq_true_eq];omega));have HNK:=ah Y3;obtain⟨A2,hA2⟩:=aqx ((A1&&(List.range k).all fK));rw [<-hA2]at HR2;have HA2:=ah hA2;clear h3 hks Y3 hfM hek hA2 hkx;have c8:=RS.out W3 _ HR2.out.1;have ck:=(HGW.out W3 HR2.out.2).1;go_wp2_with fail
          clear c8 ck hq3;go_loopw [142] (fun v W=>∃m:Nat,m<=NK/\ v= .int .i64 m/\ Hid (aU W p 75 12 (gu b x.ver a c (aZ (A2&&(List.range m).all fM) 9 g s1))/\ Save p V W)) (fun v _=>NK-(intOf v).toNat)
          case atStart=>exact⟨0,aB _,rfl,by simpa using HR2⟩
          case round=>
           clear HR2;obtain⟨m,hm,rfl,HR3⟩:=hrel;obtain⟨W4,V9⟩:=aqx wr;subst V9;by_cases hlm:m<NK
           · have hmi:(m:Int)< (NK:Int):=by omega
             have hml:m<ks.length:=(by have:=HNK.out;omega);obtain⟨b5,q5,eb5,hq5,-,hcp⟩:=(HGW.out W4 HR3.out.2).2.at hml;have hfm:=HFM.out m hml;obtain⟨em,hem⟩:=aqx (decide (j<=m));have hjm:decide ((j:Int)<=(m:Int))=em:=(by rw [hem];exact Bool.eq_iff_iff.2 (by simp only [decide_eq_true_eq];omega));rw [<-hem]at hfm;obtain⟨un,hun⟩:=aqx (ks[m]);rw [<-hun]at hcp hfm;obtain⟨en,hen⟩:=aqx ((un !=(qn:Int)));rw [<-hen]at hfm;have hen':(un !=(qn:Int))=en:=hen.symm;have QA:=ah hfm;have d9:W4.cell? q5=some (.int .u32 un):=(by have h:=hcp 0 (by decide);rw [show q5.add 0=q5 by simp [Addr.add]]at h;exact h);rw [Nat.mul_one]at hq5;have HS2:Hid (Save p V W4):=HR3.out.2|>ah;have QB:Hid (aU W4 p 75 12 (gu b x.ver a c (aZ (A2&&(List.range m).all fM) 9 g s1))):=ah HR3.out.1;subst eb5;clear hcp hfm hem hun hen hml;cases ek
             case false=>
              go_wp2_with(go_at_call 23;refine(HM.out en 9 _ _ QB.out).mono ?_;rintro e w7 ⟨rfl,ha,hs⟩;have HE:=ah (ak ha (HS2.out.trans hs));clear ha hs)
              rw [dP _ _ _ _ (by decide)]at HE;go_roundw
              case rel=>exact⟨m+1,by omega,by go_num,by rw [bn, <-Bool.and_assoc,QA.out];simpa using HE⟩
              case measure=>simp [intOf];omega
             case true=>
              cases em
              case false=>
               have hjn:¬ (j:Int)<=(m:Int):=(by simpa using hjm);go_wp2_with(go_at_call 23;refine(HM.out en 9 _ _ QB.out).mono ?_;rintro e w7 ⟨rfl,ha,hs⟩;have HE:=ah (ak ha (HS2.out.trans hs));clear ha hs)
               rw [dP _ _ _ _ (by decide)]at HE;go_roundw
               case rel=>exact⟨m+1,by omega,by go_num,by rw [bn, <-Bool.and_assoc,QA.out];simpa using HE⟩
               case measure=>simp [intOf];omega
              case true=>
               have hjn:(j:Int)<=(m:Int):=(by simpa using hjm);go_wp2_with(go_at_call 23;refine(HM.out true 9 _ _ QB.out).mono ?_;rintro e w7 ⟨rfl,ha,hs⟩;have HE:=ah (ak ha (HS2.out.trans hs));clear ha hs)
               rw [dP _ _ _ _ (by decide)]at HE;go_roundw
               case rel=>exact⟨m+1,by omega,by go_num,by rw [bn, <-Bool.and_assoc,QA.out];simpa using HE⟩
               case measure=>simp [intOf];omega
           · obtain rfl:m=NK:=by omega
             have HE:Hid (aU W4 p 75 12 (gu b x.ver a c (aZ (A1&&(List.range (k+1)).all fK) 9 g s1))):=ah (by rw [bn, <-Bool.and_assoc, <-HA2.out,ad7.out];exact HR3.out.1);clear hkg;go_wp2_with fail
             go_roundw
             case rel=>exact⟨k+1,by omega,by go_num,ah ⟨HE.out,HR3.out.2⟩⟩
             case measure=>simp [intOf];omega
        · have hki:¬ (k:Int)<=(g:Int):=by omega
          have HKG:Hid (k=g+1):=ah (by omega);have HE:Hid (aU W3 p 75 12 (gu b x.ver a c (aZ ((List.range (j+1)).all fS) 9 g s1))/\ Save p V W3):=ah ⟨by
           have h1:fS j=(iB&&(List.range (g+1)).all fK):=(by rw [Jw.out,HFK.out];rfl);rw [bn,h1, <-Oo.out, <-Bool.and_assoc, <-HA1.out, <-HKG.out];exact HR2.out.1,(aI _ _).trans HR2.out.2⟩
          go_wp2_with fail
          go_roundw
          case rel=>exact⟨j+1,by omega,by go_num,HE⟩
          case measure=>simp [intOf];omega
     · obtain rfl:n4=j:=by omega
       have hjj:¬ (n4:Int)< (n4:Int):=(by omega);rw [HFS.out.2,YR.out]at HR;go_wp2_with fail
       go_end0;exact⟨rfl,HR.out.1,HK.out.2.2.1.trans HR.out.2⟩
open Go.RowKit
theorem Y7(r1 r2 l1 l2:Nat)(i s c:Int)(hr:fit (r1,r2))(hl:fit (l1,l2))(w:World):
  Calls Tryz.prog 24 #[.agg #[.int .u64 (r1:Int),.int .u64 (r2:Int),.int .u64 (l1:Int),.int .u64 (l2:Int),.int .i64 i,.int .i64 s,.int .i64 c]] w fun e w'=>e= .returned (.int .i64 (Gu r1 r2 l1 l2 i s c:Nat))/\ Below w.heap.size w w':=by
 obtain⟨V,hV⟩:=aqx (w.alloc (.cells (GY r1 r2 l1 l2 i s c) 26));have l9:Hid (∀v,Below V.heap.size V v->Vx w r1 r2 l1 l2 i s c v):=ah (by rw [hV];exact fun v h=>Vx.of h);have HS:Hid (Below V.heap.size V V):=ah (aC _ _);have HW:Hid (Below w.heap.size w V):=ah (by rw [hV];exact(aC _ _).alloc (aj _) _);obtain⟨zR,hzR⟩:=aqx (eG (r1,r2));obtain⟨zP,Wj⟩:=aqx (eG (l1,l2));obtain⟨l,hzL⟩:=aqx (last (r1,r2));obtain⟨zW,hzW⟩:=aqx (within (l1,l2) (r1,r2));have CR:=ah (fun W=>zT r1 r2 hr W);have CP:=ah (fun W=>zT l1 l2 hl W);have CL:=ah (fun W=>lY r1 r2 hr W);have CW:=ah (fun W=>D7 l1 l2 r1 r2 hl hr W);obtain⟨E,hE⟩:=aqx (Gu r1 r2 l1 l2 i s c);have he:E=if(((zR&&decide (l<1099511627776))&&(zP&&zW))&&wS i s c)=true then 0 else 282:=(by rw [hE,hzR,Wj,hzW,hzL];rfl)
 rw [<-hE];rw [<-hzR]at CR;rw [<-Wj]at CP;rw [<-hzL]at CL;rw [<-hzW]at CW;have HV:=ah hV;clear hr hl hE hzR Wj hzW hzL hV;obtain⟨c0,c1,c2,c3,c4,c5,c6⟩:=l9.out V HS.out;rw [HV.out]at c0 c1 c2 c3 c4 c5 c6;simp only [GY]at c0 c1 c2 c3 c4 c5 c6;cases zR with
 |false=>
  obtain rfl:E=282:=by rw [he];simp
  clear he;go_enter Tryz.func24,Tryz.ntmps24;go_wp2_with(first
   |(go_at_call 57;first|((with_reducible show Calls _ _ #[.agg #[.int .u64 (r1:Int),_]] _ _);refine(CR.out _).mono ?_;rintro e v ⟨rfl,hd⟩;have hd:Below V.heap.size V v:=(by rw [HV.out];exact hd);have HS:=ah (HS.out.trans (hd.mono HS.out.size));obtain⟨c0,c1,c2,c3,c4,c5,c6⟩:=l9.out v HS.out;clear hd)))
  go_ret;exact⟨rfl,HW.out.trans (HS.out.mono HW.out.size)⟩
 |true=>
  cases zP with
  |false=>
   obtain rfl:E=282:=by rw [he];simp
   clear he;go_enter Tryz.func24,Tryz.ntmps24;go_wp2_with(first
     |(go_at_call 57;first|((with_reducible show Calls _ _ #[.agg #[.int .u64 (r1:Int),_]] _ _);refine(CR.out _).mono ?_;rintro e v ⟨rfl,hd⟩;have hd:Below V.heap.size V v:=(by rw [HV.out];exact hd);have HS:=ah (HS.out.trans (hd.mono HS.out.size));obtain⟨c0,c1,c2,c3,c4,c5,c6⟩:=l9.out v HS.out;clear hd)|((with_reducible show Calls _ _ #[.agg #[.int .u64 (l1:Int),_]] _ _);refine(CP.out _).mono ?_;rintro e v ⟨rfl,hd⟩;have HS:=ah (HS.out.trans (hd.mono HS.out.size));obtain⟨c0,c1,c2,c3,c4,c5,c6⟩:=l9.out v HS.out;clear hd)))
   go_ret;exact⟨rfl,HW.out.trans (HS.out.mono HW.out.size)⟩
  |true=>
   by_cases hlt:l<1099511627776
   · have hl1:¬ (1099511627776:Int)<=l:=by omega
     have hl2:decide ((1099511627776:Int)<=l)=false:=decide_eq_false hl1;rw [decide_eq_true hlt]at he;clear hlt;cases zW with
     |false=>
      obtain rfl:E=282:=by rw [he];simp
      clear he;go_enter Tryz.func24,Tryz.ntmps24;go_wp2_with(first
        |(go_at_call 57;first|((with_reducible show Calls _ _ #[.agg #[.int .u64 (r1:Int),_]] _ _);refine(CR.out _).mono ?_;rintro e v ⟨rfl,hd⟩;have hd:Below V.heap.size V v:=(by rw [HV.out];exact hd);have HS:=ah (HS.out.trans (hd.mono HS.out.size));obtain⟨c0,c1,c2,c3,c4,c5,c6⟩:=l9.out v HS.out;clear hd)|((with_reducible show Calls _ _ #[.agg #[.int .u64 (l1:Int),_]] _ _);refine(CP.out _).mono ?_;rintro e v ⟨rfl,hd⟩;have HS:=ah (HS.out.trans (hd.mono HS.out.size));obtain⟨c0,c1,c2,c3,c4,c5,c6⟩:=l9.out v HS.out;clear hd))
        |(go_at_call 58;refine(CL.out _).mono ?_;rintro e v ⟨rfl,hd⟩;have HS:=ah (HS.out.trans (hd.mono HS.out.size));obtain⟨c0,c1,c2,c3,c4,c5,c6⟩:=l9.out v HS.out;clear hd)
        |(go_at_call 59;refine(CW.out _).mono ?_;rintro e v ⟨rfl,hd⟩;have HS:=ah (HS.out.trans (hd.mono HS.out.size));obtain⟨c0,c1,c2,c3,c4,c5,c6⟩:=l9.out v HS.out;clear hd))
      go_ret;exact⟨rfl,HW.out.trans (HS.out.mono HW.out.size)⟩
     |true=>
      by_cases n1:i<0
      · obtain rfl:E=282:=by rw [he];unfold wS;rw [if_neg];simp;omega
        clear he;go_enter Tryz.func24,Tryz.ntmps24;go_wp2_with(first
          |(go_at_call 57;first|((with_reducible show Calls _ _ #[.agg #[.int .u64 (r1:Int),_]] _ _);refine(CR.out _).mono ?_;rintro e v ⟨rfl,hd⟩;have hd:Below V.heap.size V v:=(by rw [HV.out];exact hd);have HS:=ah (HS.out.trans (hd.mono HS.out.size));obtain⟨c0,c1,c2,c3,c4,c5,c6⟩:=l9.out v HS.out;clear hd)|((with_reducible show Calls _ _ #[.agg #[.int .u64 (l1:Int),_]] _ _);refine(CP.out _).mono ?_;rintro e v ⟨rfl,hd⟩;have HS:=ah (HS.out.trans (hd.mono HS.out.size));obtain⟨c0,c1,c2,c3,c4,c5,c6⟩:=l9.out v HS.out;clear hd))
          |(go_at_call 58;refine(CL.out _).mono ?_;rintro e v ⟨rfl,hd⟩;have HS:=ah (HS.out.trans (hd.mono HS.out.size));obtain⟨c0,c1,c2,c3,c4,c5,c6⟩:=l9.out v HS.out;clear hd)
          |(go_at_call 59;refine(CW.out _).mono ?_;rintro e v ⟨rfl,hd⟩;have HS:=ah (HS.out.trans (hd.mono HS.out.size));obtain⟨c0,c1,c2,c3,c4,c5,c6⟩:=l9.out v HS.out;clear hd))
        go_ret;exact⟨rfl,HW.out.trans (HS.out.mono HW.out.size)⟩
      · skip
        by_cases n2:1020<i
        · obtain rfl:E=282:=by rw [he];unfold wS;rw [if_neg];simp;omega
          clear he;go_enter Tryz.func24,Tryz.ntmps24;go_wp2_with(first
            |(go_at_call 57;first|((with_reducible show Calls _ _ #[.agg #[.int .u64 (r1:Int),_]] _ _);refine(CR.out _).mono ?_;rintro e v ⟨rfl,hd⟩;have hd:Below V.heap.size V v:=(by rw [HV.out];exact hd);have HS:=ah (HS.out.trans (hd.mono HS.out.size));obtain⟨c0,c1,c2,c3,c4,c5,c6⟩:=l9.out v HS.out;clear hd)|((with_reducible show Calls _ _ #[.agg #[.int .u64 (l1:Int),_]] _ _);refine(CP.out _).mono ?_;rintro e v ⟨rfl,hd⟩;have HS:=ah (HS.out.trans (hd.mono HS.out.size));obtain⟨c0,c1,c2,c3,c4,c5,c6⟩:=l9.out v HS.out;clear hd))
            |(go_at_call 58;refine(CL.out _).mono ?_;rintro e v ⟨rfl,hd⟩;have HS:=ah (HS.out.trans (hd.mono HS.out.size));obtain⟨c0,c1,c2,c3,c4,c5,c6⟩:=l9.out v HS.out;clear hd)
            |(go_at_call 59;refine(CW.out _).mono ?_;rintro e v ⟨rfl,hd⟩;have HS:=ah (HS.out.trans (hd.mono HS.out.size));obtain⟨c0,c1,c2,c3,c4,c5,c6⟩:=l9.out v HS.out;clear hd))
          go_ret;exact⟨rfl,HW.out.trans (HS.out.mono HW.out.size)⟩
        · skip
          by_cases n3:s<0
          · obtain rfl:E=282:=by rw [he];unfold wS;rw [if_neg];simp;omega
            clear he;go_enter Tryz.func24,Tryz.ntmps24;go_wp2_with(first
              |(go_at_call 57;first|((with_reducible show Calls _ _ #[.agg #[.int .u64 (r1:Int),_]] _ _);refine(CR.out _).mono ?_;rintro e v ⟨rfl,hd⟩;have hd:Below V.heap.size V v:=(by rw [HV.out];exact hd);have HS:=ah (HS.out.trans (hd.mono HS.out.size));obtain⟨c0,c1,c2,c3,c4,c5,c6⟩:=l9.out v HS.out;clear hd)|((with_reducible show Calls _ _ #[.agg #[.int .u64 (l1:Int),_]] _ _);refine(CP.out _).mono ?_;rintro e v ⟨rfl,hd⟩;have HS:=ah (HS.out.trans (hd.mono HS.out.size));obtain⟨c0,c1,c2,c3,c4,c5,c6⟩:=l9.out v HS.out;clear hd))
              |(go_at_call 58;refine(CL.out _).mono ?_;rintro e v ⟨rfl,hd⟩;have HS:=ah (HS.out.trans (hd.mono HS.out.size));obtain⟨c0,c1,c2,c3,c4,c5,c6⟩:=l9.out v HS.out;clear hd)
              |(go_at_call 59;refine(CW.out _).mono ?_;rintro e v ⟨rfl,hd⟩;have HS:=ah (HS.out.trans (hd.mono HS.out.size));obtain⟨c0,c1,c2,c3,c4,c5,c6⟩:=l9.out v HS.out;clear hd))
            go_ret;exact⟨rfl,HW.out.trans (HS.out.mono HW.out.size)⟩
          · skip
            by_cases n4:256<s
            · obtain rfl:E=282:=by rw [he];unfold wS;rw [if_neg];simp;omega
              clear he;go_enter Tryz.func24,Tryz.ntmps24;go_wp2_with(first
                |(go_at_call 57;first|((with_reducible show Calls _ _ #[.agg #[.int .u64 (r1:Int),_]] _ _);refine(CR.out _).mono ?_;rintro e v ⟨rfl,hd⟩;have hd:Below V.heap.size V v:=(by rw [HV.out];exact hd);have HS:=ah (HS.out.trans (hd.mono HS.out.size));obtain⟨c0,c1,c2,c3,c4,c5,c6⟩:=l9.out v HS.out;clear hd)|((with_reducible show Calls _ _ #[.agg #[.int .u64 (l1:Int),_]] _ _);refine(CP.out _).mono ?_;rintro e v ⟨rfl,hd⟩;have HS:=ah (HS.out.trans (hd.mono HS.out.size));obtain⟨c0,c1,c2,c3,c4,c5,c6⟩:=l9.out v HS.out;clear hd))
                |(go_at_call 58;refine(CL.out _).mono ?_;rintro e v ⟨rfl,hd⟩;have HS:=ah (HS.out.trans (hd.mono HS.out.size));obtain⟨c0,c1,c2,c3,c4,c5,c6⟩:=l9.out v HS.out;clear hd)
                |(go_at_call 59;refine(CW.out _).mono ?_;rintro e v ⟨rfl,hd⟩;have HS:=ah (HS.out.trans (hd.mono HS.out.size));obtain⟨c0,c1,c2,c3,c4,c5,c6⟩:=l9.out v HS.out;clear hd))
              go_ret;exact⟨rfl,HW.out.trans (HS.out.mono HW.out.size)⟩
            · skip
              by_cases n5:c<1
              · obtain rfl:E=282:=by rw [he];unfold wS;rw [if_neg];simp;omega
                clear he;go_enter Tryz.func24,Tryz.ntmps24;go_wp2_with(first
                  |(go_at_call 57;first|((with_reducible show Calls _ _ #[.agg #[.int .u64 (r1:Int),_]] _ _);refine(CR.out _).mono ?_;rintro e v ⟨rfl,hd⟩;have hd:Below V.heap.size V v:=(by rw [HV.out];exact hd);have HS:=ah (HS.out.trans (hd.mono HS.out.size));obtain⟨c0,c1,c2,c3,c4,c5,c6⟩:=l9.out v HS.out;clear hd)|((with_reducible show Calls _ _ #[.agg #[.int .u64 (l1:Int),_]] _ _);refine(CP.out _).mono ?_;rintro e v ⟨rfl,hd⟩;have HS:=ah (HS.out.trans (hd.mono HS.out.size));obtain⟨c0,c1,c2,c3,c4,c5,c6⟩:=l9.out v HS.out;clear hd))
                  |(go_at_call 58;refine(CL.out _).mono ?_;rintro e v ⟨rfl,hd⟩;have HS:=ah (HS.out.trans (hd.mono HS.out.size));obtain⟨c0,c1,c2,c3,c4,c5,c6⟩:=l9.out v HS.out;clear hd)
                  |(go_at_call 59;refine(CW.out _).mono ?_;rintro e v ⟨rfl,hd⟩;have HS:=ah (HS.out.trans (hd.mono HS.out.size));obtain⟨c0,c1,c2,c3,c4,c5,c6⟩:=l9.out v HS.out;clear hd))
                go_ret;exact⟨rfl,HW.out.trans (HS.out.mono HW.out.size)⟩
              · skip
                by_cases n6:32<c
                · obtain rfl:E=282:=by rw [he];unfold wS;rw [if_neg];simp;omega
                  clear he;go_enter Tryz.func24,Tryz.ntmps24;go_wp2_with(first
                   |(go_at_call 57;first|((with_reducible show Calls _ _ #[.agg #[.int .u64 (r1:Int),_]] _ _);refine(CR.out _).mono ?_;rintro e v ⟨rfl,hd⟩;have hd:Below V.heap.size V v:=(by rw [HV.out];exact hd);have HS:=ah (HS.out.trans (hd.mono HS.out.size));obtain⟨c0,c1,c2,c3,c4,c5,c6⟩:=l9.out v HS.out;clear hd)|((with_reducible show Calls _ _ #[.agg #[.int .u64 (l1:Int),_]] _ _);refine(CP.out _).mono ?_;rintro e v ⟨rfl,hd⟩;have HS:=ah (HS.out.trans (hd.mono HS.out.size));obtain⟨c0,c1,c2,c3,c4,c5,c6⟩:=l9.out v HS.out;clear hd))
                   |(go_at_call 58;refine(CL.out _).mono ?_;rintro e v ⟨rfl,hd⟩;have HS:=ah (HS.out.trans (hd.mono HS.out.size));obtain⟨c0,c1,c2,c3,c4,c5,c6⟩:=l9.out v HS.out;clear hd)
                   |(go_at_call 59;refine(CW.out _).mono ?_;rintro e v ⟨rfl,hd⟩;have HS:=ah (HS.out.trans (hd.mono HS.out.size));obtain⟨c0,c1,c2,c3,c4,c5,c6⟩:=l9.out v HS.out;clear hd))
                  go_ret;exact⟨rfl,HW.out.trans (HS.out.mono HW.out.size)⟩
                · skip
                  obtain rfl:E=0:=by rw [he];unfold wS;rw [if_pos];simp;omega
                  clear he;have yH:=ah (ak n1 (ak n2 (ak n3 (ak n4 (ak n5 n6)))));clear n1 n2 n3 n4 n5 n6;go_enter Tryz.func24,Tryz.ntmps24;obtain⟨n1,n2,n3,n4,n5,n6⟩:=yH.out;have d1:decide (i<0)=false:=decide_eq_false n1;have d2:decide ((1020:Int)<i)=false:=decide_eq_false n2;have d3:decide (s<0)=false:=decide_eq_false n3;have d4:decide ((256:Int)<s)=false:=decide_eq_false n4;have d5:decide (c<1)=false:=decide_eq_false n5;have d6:decide ((32:Int)<c)=false:=decide_eq_false n6;clear n1 n2 n3 n4 n5 n6;go_wp2_with(first
                   |(go_at_call 57;first|((with_reducible show Calls _ _ #[.agg #[.int .u64 (r1:Int),_]] _ _);refine(CR.out _).mono ?_;rintro e v ⟨rfl,hd⟩;have hd:Below V.heap.size V v:=(by rw [HV.out];exact hd);have HS:=ah (HS.out.trans (hd.mono HS.out.size));obtain⟨c0,c1,c2,c3,c4,c5,c6⟩:=l9.out v HS.out;clear hd)|((with_reducible show Calls _ _ #[.agg #[.int .u64 (l1:Int),_]] _ _);refine(CP.out _).mono ?_;rintro e v ⟨rfl,hd⟩;have HS:=ah (HS.out.trans (hd.mono HS.out.size));obtain⟨c0,c1,c2,c3,c4,c5,c6⟩:=l9.out v HS.out;clear hd))
                   |(go_at_call 58;refine(CL.out _).mono ?_;rintro e v ⟨rfl,hd⟩;have HS:=ah (HS.out.trans (hd.mono HS.out.size));obtain⟨c0,c1,c2,c3,c4,c5,c6⟩:=l9.out v HS.out;clear hd)
                   |(go_at_call 59;refine(CW.out _).mono ?_;rintro e v ⟨rfl,hd⟩;have HS:=ah (HS.out.trans (hd.mono HS.out.size));obtain⟨c0,c1,c2,c3,c4,c5,c6⟩:=l9.out v HS.out;clear hd))
                  go_ret;exact⟨rfl,HW.out.trans (HS.out.mono HW.out.size)⟩
   · have hl1:(1099511627776:Int)<=l:=by omega
     have hl2:decide ((1099511627776:Int)<=l)=true:=decide_eq_true hl1;rw [decide_eq_false hlt]at he;clear hlt;obtain rfl:E=282:=by rw [he];simp
     clear he;go_enter Tryz.func24,Tryz.ntmps24;go_wp2_with(first
      |(go_at_call 57;first|((with_reducible show Calls _ _ #[.agg #[.int .u64 (r1:Int),_]] _ _);refine(CR.out _).mono ?_;rintro e v ⟨rfl,hd⟩;have hd:Below V.heap.size V v:=(by rw [HV.out];exact hd);have HS:=ah (HS.out.trans (hd.mono HS.out.size));obtain⟨c0,c1,c2,c3,c4,c5,c6⟩:=l9.out v HS.out;clear hd)|((with_reducible show Calls _ _ #[.agg #[.int .u64 (l1:Int),_]] _ _);refine(CP.out _).mono ?_;rintro e v ⟨rfl,hd⟩;have HS:=ah (HS.out.trans (hd.mono HS.out.size));obtain⟨c0,c1,c2,c3,c4,c5,c6⟩:=l9.out v HS.out;clear hd))
      |(go_at_call 58;refine(CL.out _).mono ?_;rintro e v ⟨rfl,hd⟩;have HS:=ah (HS.out.trans (hd.mono HS.out.size));obtain⟨c0,c1,c2,c3,c4,c5,c6⟩:=l9.out v HS.out;clear hd))
     go_ret;exact⟨rfl,HW.out.trans (HS.out.mono HW.out.size)⟩
open Go.RowKit
attribute [local go_sem ↓ high] nK
theorem Tt{w:World}{p:Nat}{t:TypeId}{b:Bd}{ver:Int}{a c:Value}{s:Nat × Nat}(h:aU w p t 12 (gu b ver a c s)):w.cell? ⟨p,10,none⟩=some (.int .i64 (s.1:Int)):=h.cell (i:=10) (by decide)
theorem OA{w:World}{p:Nat}{t:TypeId}{b:Bd}{ver:Int}{a c:Value}{s:Nat × Nat}(h:aU w p t 12 (gu b ver a c s)):w.cell? ⟨p,11,none⟩=some (.int .i64 (s.2:Int)):=h.cell (i:=11) (by decide)
theorem Y8{x:Cf}{g:Int}{n:Nat}(h:oh x g= .error n):n≠0:=by
 unfold oh at h
 split at h
 · injection h with h;omega
 · split at h
   · cases h
   · injection h with h;omega
theorem Vy{b:Bd}{x:Cf}(h:(mO b x).1=0):sH b=true/\ lT x=0:=by
 unfold mO aZ at h;cases hf:sH b with
 |false=>rw [hf]at h;simp at h
 |true=>
  rw [hf]at h;by_cases he:lT x=0
  · exact⟨rfl,he⟩
  · simp [he]at h
theorem Tv:(Tryz.prog.info? 26).map (·.size)=some 7:=by kernel_rfl
theorem QC(HRR:YP)(HRL:Y2)(HRC:acj)(x:Cf)(a c:Value)(b:Bd)(w:World)(hx:uw w w.heap.size x a c)(hb:Aj x)(hf:qU x=true)(hr:fit b.r)(hl:fit b.l):
   Calls Tryz.prog 11 #[.agg (vec 7 (kH b)),ji x a c] w fun e w'=>e= .returned (.tuple #[.int .i64 ((lU b x).1:Int),.int .i64 ((lU b x).2.1:Int),.int .i64 ((lU b x).2.2:Int)])/\ Below w.heap.size w w':=by
 have hxW:=hx;replace hx:=hx.1;obtain⟨A,d,A2,d2,ha,hc,-,hgu⟩:=EL hx;obtain⟨q2,hq2⟩:=aqx (w.heap.size);obtain⟨V,hV⟩:=aqx ((w.alloc (.cells (vec 7 (kH b)) 26)).alloc (.cells (vec 3 (eX x.ver a c)) 31));have k2:aU V q2 26 7 (kH b):=(by rw [hV,hq2];exact(aU.new w _ _ _).alloc _);have k3:aU V (q2+1) 31 3 (eX x.ver a c):=(by rw [hV,hq2, <-World.size_alloc w (.cells (vec 7 (kH b)) 26)];exact aU.new _ _ _ _);have hB:Below w.heap.size w V:=(by rw [hV];exact Laid.below ⟨[_,_],rfl⟩);have hsz:V.heap.size=q2+2:=(by rw [hV,hq2];simp);obtain⟨U,hU⟩:=aqx (V.alloc (.cells (vec 12 (gu b x.ver a c (0,0))) 75));have ku:aU U (q2+2) 75 12 (gu b x.ver a c (0,0)):=(by rw [hU, <-hsz];exact aU.new _ _ _ _);have bu:Below V.heap.size V U:=(by rw [hU];exact(aC _ _).alloc (aj _) _);have Lj:Below w.heap.size w U:=hB.trans (bu.mono hB.size);obtain⟨p,hp⟩:=aqx (q2+2);rw [<-hp]at ku hsz;have HV:=ah hV;have HQ2:=ah hq2;have Lc:=ah hsz;have HU:=ah hU;have Yw:=ah (k2.under bu);have Fj:=ah (k3.under bu);have HKV:=ah (ak k2 k3);have HKU:=ah ku;have HPQ:Hid (q2≠p/\ q2+1≠p/\ w.heap.size<=p):=ah ⟨by omega,by omega,by omega⟩;have Ll:=ah Lj;have HX:=ah hx;have JL:=ah hb;have HF:=ah hf;have Bg:=ah (ak hr hl);have HM:Hid (∀is (r k:Nat) t W,aU W p 75 12 (gu b x.ver a c t)->Calls Tryz.prog 23 #[.pointer (some ⟨p,0,none⟩),.bool is,.int .i64 (r:Int),.int .i64 (k:Int)] W fun e w'=>e= .returned (.tuple #[])/\ aU w' p 75 12 (gu b x.ver a c (aZ is r k t))/\ Save p W w'):=ah (fun is r k t W hW=>vM is r k p b x.ver a c t W hW);have Z8:=ah (fun W=>Y7 b.r.1 b.r.2 b.l.1 b.l.2 b.cO b.strs b.gX hr hl W);have HPU:Hid (∀W,Save p U W->Calls Tryz.prog 25 #[.agg (vec 3 (eX x.ver a c))] W fun e w'=>(∃v,e= .returned (.tuple #[v,.int .i64 (lT x:Int)]))/\ Below W.heap.size W w'):=ah fun W hW=>by
   have hxx:Ai W W.heap.size x a c:=(hx.below (Lj.trans (hW.below (by omega) Lj.size))).wide (aA Lj.size hW.size);refine(QD x a c W hxx hb fun g hg=>by have:=(jZ ((iI hf).2.2 g hg)).2.2.2.2;omega).mono ?_;rintro e w' ⟨h1,h2⟩;refine⟨?_,h2⟩;by_cases he:lT x=0
   · rw [if_pos he]at h1
     obtain⟨v,rfl,-⟩:=h1;exact⟨v,by rw [he];rfl⟩
   · rw [if_neg he]at h1
     exact⟨_,h1⟩
 obtain⟨E,hE⟩:=aqx (Gu b.r.1 b.r.2 b.l.1 b.l.2 b.cO b.strs b.gX);have hEB:sH b=(E==0):=(by unfold sH;rw [hE]);rw [<-hE]at Z8;obtain⟨zE,hzE⟩:∃z:Bool,z=(E==0):=⟨_,rfl⟩;obtain⟨PE,hPE⟩:=aqx (lT x);obtain⟨zP,Wj⟩:∃z:Bool,z=(PE==0):=⟨_,rfl⟩;rw [<-hPE]at HPU;have zEi:((E:Int)==0)=zE:=(by rw [hzE];exact Bool.eq_iff_iff.2 (by simp));have zPi:((PE:Int)==0)=zP:=(by rw [Wj];exact Bool.eq_iff_iff.2 (by simp));have hhd:mO b x=aZ zP 2 0 (aZ zE 1 0 (0,0)):=(by unfold mO;rw [hEB,hzE,Wj,hPE];congr 1);have HHD:=ah hhd;have HZ:Hid (zE=sH b/\ zP=(lT x==0)):=ah ⟨by rw [hEB];exact hzE,by rw [Wj,hPE]⟩;obtain⟨N,hN⟩:=aqx (x.gs.length);obtain⟨M,hM⟩:=aqx (x.dH.length);have hNb:N<=20:=(by rw [hN];exact(iI hf).1);have hMb:M<=40:=(by rw [hM];exact(iI hf).2.1);have HN:=ah (ak hN hM);have CQ:Hid (∀Y,Save p U Y->Y.cell? ⟨q2+1,1,none⟩=some (.slice A N d)/\ Y.cell? ⟨q2+1,2,none⟩=some (.slice A2 M d2)):=ah fun Y hY=>by
   have h3:=(k3.under bu).save hY (show q2+1≠p by omega);exact⟨(h3.cell (i:=1) (by decide)).trans (congrArg some (by rw [hN, <-ha];rfl)),(h3.cell (i:=2) (by decide)).trans (congrArg some (by rw [hM, <-hc];rfl))⟩
 have Lh:Hid (∀k (hk:k<x.gs.length),∃a0 q,A=some a0/\ a0.add (k*79)=q/\ q.block≠p/\ ∀Y,Save p U Y->Y.cell? q=some (.string (strOf (x.gs[k]).name))):=ah fun k hk=>by
   obtain⟨a0,q,A1,e1,A2',e2,A3,e3,A4,e4,h1,h2,h3⟩:=hgu k hk;have hq:q.block<w.heap.size:=by
     obtain⟨⟨Ag,dg,ys,eg,hm,hr',-⟩,-⟩:=hx;rw [ha]at eg;injection eg with eg1 eg2 eg3
     obtain⟨a',q',ea',hq',hlt',-⟩:=hr'.row.at (show k<ys.length by rw [<-List.length_map (f:=GV.g),hm];exact hk);rw [<-eg1,h1]at ea';injection ea' with ea'
     subst ea';rw [h2]at hq';subst hq';exact hlt'
   exact⟨a0,q,h1,h2,by omega,fun Y hY=>(h3 Y (Lj.trans (hY.below (by omega) Lj.size))).name⟩
 have ad9:Hid (∀Y,Save p U Y->uw Y w.heap.size x a c):=(ah fun Y hY=>hxW.below (Lj.trans (hY.below (by omega) Lj.size)));have aea:Hid (∀Y,Save p U Y->Ai Y w.heap.size x a c):=(ah fun Y hY=>hx.below (Lj.trans (hY.below (by omega) Lj.size)));have hpw:w.heap.size<=p:=(by omega);have HMP:Hid (∀ (g:Nat) W,Save p U W->Calls Tryz.prog 14 #[.agg (vec 3 (eX x.ver a c)),.int .i64 (g:Int)] W fun e w'=>(∃ (v:Value) (n:Nat),e= .returned (.tuple #[v,.int .i64 (n:Int)])/\ ((n:Int)==0)=qh x g)/\ Below W.heap.size W w'):=ah fun g W hW=>by
   refine(Vz x a c (g:Int) W ((aea.out W hW).wide (aA Lj.size hW.size)) hb hf).mono ?_;intro e w' h;unfold OB at h;unfold qh;cases hm:oh x (g:Int)with
   |error n=>
     rw [hm]at h;have hn:=Y8 hm;exact⟨⟨_,n,h.1,by simpa using hn⟩,h.2⟩
   |ok l=>
     rw [hm]at h;obtain⟨v,h1,-,h3⟩:=h;exact⟨⟨v,0,h1,rfl⟩,h3⟩
 unfold ji;clear hpw hgu ha hc hN hM hq2 hV k2 k3 hB hsz hU ku bu Lj hp hx hxW hb hf hr hl hE hEB hzE hPE Wj hhd;go_enter Tryz.func11,Tryz.ntmps11;go_upto_region 1 with fail
 rw [<-HV.out];simp only [<-HQ2.out];go_upto_region 2 with(first
   |((with_reducible refine aqz 17 (.load _ _) ?_);refine bM rfl 26 _ rfl q2 rfl _ (aQ HKV.out.1 Tryz.underlying26 rfl Tv) ?_)
   |((with_reducible refine aqz 18 (.load _ _) ?_);refine bM rfl 31 _ rfl (q2+1) rfl _ (aQ HKV.out.2 Tryz.underlying31 rfl dR) ?_)
   |((with_reducible refine aqy (.build _ _) ?_);refine dh rfl 75 _ rfl (vec 12 (gu b x.ver a c (0,0))) (by kernel_rfl) ?_))
 rw [<-HU.out,Lc.out];clear HU Lc HKV;go_upto_region 3 with(first
   |((with_reducible refine aqz 22 (.load _ _) ?_);refine bM rfl 26 _ rfl q2 rfl _ (aQ Yw.out Tryz.underlying26 rfl Tv) ?_)
   |(go_at_call 24;refine(Z8.out _).mono ?_;rintro e w1 ⟨rfl,hd1⟩;have HA1:=ah (ak (HKU.out.under hd1) (aH (g:=p) hd1));clear hd1)
   |(go_at_call 23;refine(HM.out _ 1 0 _ _ HA1.out.1).mono ?_;rintro e w2 ⟨rfl,ha,hs⟩;have HA2:=ah (ak ha (HA1.out.2.trans hs));clear ha hs))
 go_upto_region 4 with(first
   |((with_reducible refine aqz 27 (.load _ _) ?_);refine bM rfl 31 _ rfl (q2+1) rfl _ (aQ (Fj.out.save HA2.out.2 HPQ.out.2.1) Tryz.underlying31 rfl dR) ?_)
   |(go_at_call 25;refine(HPU.out _ HA2.out.2).mono ?_;rintro e w3 ⟨⟨vp,rfl⟩,hd3⟩;have wz:=ah (ak (HA2.out.1.under hd3) (HA2.out.2.trans (aH (g:=p) hd3)));clear hd3))
 go_upto_region 5 with(go_at_call 23;refine(HM.out _ 2 0 _ _ wz.out.1).mono ?_;rintro e w4 ⟨rfl,ha,hs⟩;have Vt:=ah (ak ha (wz.out.2.trans hs));clear ha hs)
 rw [<-HHD.out]at Vt;obtain⟨s0,hs0⟩:=aqx (mO b x);rw [<-hs0]at Vt;have V7:=ah hs0;have c10:=Tt Vt.out.1;have c11:=OA Vt.out.1;clear hs0 HA1 HA2 wz;by_cases h0:s0.1=0
 · have hz0:((s0.1:Int) !=0)=false:=by simp [h0]
   obtain⟨hft,her⟩:=Vy (show(mO b x).1=0 by rw [<-V7.out];exact h0);have Ig:=ah (fun(g:Nat) (hg:g<x.gs.length) t W (hW:Save p U W) hA=>Y9 x a c b p w.heap.size g t hg W (aea.out W hW) HPQ.out.2.2 JL.out (VA hft) (iI HF.out).1 hA);have HG2:=ah (fun(g:Nat) (hg:g<x.gs.length) t W (hW:Save p U W) hA=>HRR x a c b p w.heap.size g t W hg (ad9.out W hW) HPQ.out.2.2 JL.out HF.out Bg.out.1 Bg.out.2 hft her hA);have HG3:=ah (fun(g:Nat) (hg:g<x.gs.length) t W (hW:Save p U W) hA=>HRL x a c b p w.heap.size g t W hg (ad9.out W hW) HPQ.out.2.2 JL.out HF.out Bg.out.1 Bg.out.2 hft her hA);have HG4:=ah (fun(g:Nat) (hg:g<x.gs.length) t W (hW:Save p U W) hA=>VB x a c b p w.heap.size g t W (aea.out W hW) HPQ.out.2.2 JL.out HF.out (by have:=(iI HF.out).1;omega) hA);have HG5:=ah (fun(g:Nat) (hg:g<x.dH.length) t W (hW:Save p U W) hA=>HRC x a c b p w.heap.size g t W hg (ad9.out W hW) HPQ.out.2.2 JL.out HF.out Bg.out.1 Bg.out.2 hft her hA);clear hft her;go_upto_region 7 with fail
   clear c10 c11 hz0;have c31:=(CQ.out w4 Vt.out.2).1;obtain⟨NM,hNM⟩:∃f:Nat->Nat × Nat->Nat × Nat,f=fun i=>aZ (nameB x i) 2 i:=⟨_,rfl⟩;have HNF:=ah hNM;clear hNM;go_wp2_with fail
   clear c31;go_loopw [51] (fun v W=>∃i:Nat,i<=N/\ v= .int .i64 i/\ Hid (aU W p 75 12 (gu b x.ver a c (upto i NM s0))/\ Save p U W)) (fun v _=>N-(intOf v).toNat)
   case atStart=>exact⟨0,aB _,rfl,Vt⟩
   case round=>
     clear Vt;obtain⟨i,hi,rfl,HR⟩:=hrel;by_cases hlt:i<N
     · have hiN:(i:Int)< (N:Int):=by omega
       obtain⟨S1,hS1⟩:=aqx (upto i NM s0);rw [<-hS1]at HR;have uq:=ah hS1;clear hS1;go_upto_region 11 with fail
       go_loopw [11] (fun v W=>∃k:Nat,k<=i/\ v= .int .i64 k/\ Hid (aU W p 75 12 (gu b x.ver a c (aZ ((List.range k).all fun k=> !Qv (x.gs.getD i vw.g).name (x.gs.getD k vw.g).name) 2 i S1))/\ Save p U W)) (fun v _=>i-(intOf v).toNat)
       case atStart=>exact⟨0,aB _,rfl,by simpa [eP]using HR⟩
       case round=>
        clear HR;obtain⟨k,hk,rfl,HR⟩:=hrel;obtain⟨W,hW⟩:=aqx wr;subst hW;by_cases hlt2:k<i
        · have hki:(k:Int)< (i:Int):=by omega
          have hkN:(k:Int)< (N:Int):=(by omega);have hil:i<x.gs.length:=(by have:=HN.out.1;omega);have hkl:k<x.gs.length:=(by omega);obtain⟨a0,q,ea,hq,hqp,hz⟩:=Lh.out i hil;obtain⟨a1,q1,ea1,hq1,ao8,hz1⟩:=Lh.out k hkl;have e10:a1=a0:=(by rw [ea]at ea1;exact(Option.some.inj ea1).symm);subst e10;subst ea;have hne:(!Qv (x.gs.getD i vw.g).name (x.gs.getD k vw.g).name)= !((strOf (x.gs[i]).name).toList==(strOf (x.gs[k]).name).toList):=(by simp only [List.getD,aF hil,aF hkl,Option.getD_some];rfl);obtain⟨n1,hn1⟩:=aqx (strOf (x.gs[i]).name);obtain⟨n2,hn2⟩:=aqx (strOf (x.gs[k]).name);rw [<-hn1]at hz hne;rw [<-hn2]at hz1 hne;obtain⟨ne,aeb⟩:∃z:Bool,z=(n1.toList==n2.toList):=⟨_,rfl⟩;have Yd:Hid (∀Y,Save p U Y->Y.cell? ⟨q2+1,1,none⟩=some (.slice (some a1) N d)/\ Y.cell? q=some (.string n1)/\ Y.cell? q1=some (.string n2)):=(ah fun Y hY=>⟨(CQ.out Y hY).1,hz Y hY,hz1 Y hY⟩);have mD:Hid ((!Qv (x.gs.getD i vw.g).name (x.gs.getD k vw.g).name)= !ne):=ah (by rw [hne,aeb]);have hnb:(n1.toList==n2.toList)=ne:=aeb.symm;have Z5:Hid (aU W.drew p 75 12 (gu b x.ver a c (aZ ((List.range k).all fun k=> !Qv (x.gs.getD i vw.g).name (x.gs.getD k vw.g).name) 2 i S1))):=ah HR.out.1;have RV:Hid (Save p U W.drew):=ah (show Save p U W.drew from HR.out.2.drewN 1);clear hz hz1 hne hn1 hn2 aeb hil hkl;go_upto_region 13 with fail
          refine wp_region_held_drew (S:=fun Y=>Save p U Y) (by kernel_rfl) RV.out (fun hS=> ?_);refine tA 0 ?_;refine tP 1 ?_;refine tP 2 (hy:=by(intro W hW;obtain⟨z0,z1,z2⟩:=Yd.out W hW;clear hW;go_simp;(try with_reducible rfl))) ?_;refine tA 3 ?_;refine tP 4 (hy:=by(intro W hW;clear hW;go_simp;(try with_reducible rfl);(try(intro h;omega)))) ?_;refine tP 5 ?_;refine tP 6 (hy:=by(intro W hW;obtain⟨z0,z1,z2⟩:=Yd.out W hW;clear hW;go_simp;(try with_reducible rfl))) ?_;refine tP 7 ?_;refine tP 8 (hy:=by(intro W hW;obtain⟨z0,z1,z2⟩:=Yd.out W hW;clear hW;go_simp;(try with_reducible rfl))) ?_;refine tA 9 ?_;refine tP 10 (hy:=by(intro W hW;clear hW;go_simp;(try with_reducible rfl);(try(intro h;omega)))) ?_;refine tP 11 ?_;refine tP 12 (hy:=by(intro W hW;obtain⟨z0,z1,z2⟩:=Yd.out W hW;clear hW;go_simp;(try with_reducible rfl))) ?_;refine tA 13 ?_;refine tA 14 ?_;refine oQ 15 fun K15 Gw=> ?_;go_simp;refine(HM.out _ 2 i _ _ Z5.out).mono ?_;rintro e y15 ⟨rfl,ha,hs⟩;have bT:=ah (ak ha (RV.out.trans hs));refine Gw _ _ (RV.out.trans hs) (fun Oc=> ?_);clear ha hs Gw K15;refine wpAnyH_done (by kernel_rfl) ?_ _;rw [dP _ _ _ _ (by decide)]at bT;go_wp2_with fail
          go_roundw
          case rel=>exact⟨k+1,by omega,by go_num,ah ⟨by rw [bn,mD.out];exact bT.out.1,bT.out.2⟩⟩
          case measure=>simp [intOf];omega
        · obtain rfl:k=i:=by omega
          have HE:Hid (aU W p 75 12 (gu b x.ver a c (upto (k+1) NM s0))):=ah (by rw [upto_succ, <-uq.out,HNF.out];exact HR.out.1);go_wp2_with fail
          go_roundw
          case rel=>exact⟨k+1,by omega,by go_num,ah ⟨HE.out,HR.out.2⟩⟩
          case measure=>simp [intOf];omega
     · obtain rfl:i=N:=by omega
       have c31:=(CQ.out wr HR.out.2).1;obtain⟨S2,hS2⟩:=aqx (upto i NM s0);rw [<-hS2]at HR;have HS2:=ah hS2;clear hS2;go_wp2_with fail
       clear c31;go_loopw [79] (fun v W=>∃g:Nat,g<=i/\ v= .int .i64 g/\ Hid (aU W p 75 12 (gu b x.ver a c (upto g (iZ b x) S2))/\ Save p U W)) (fun v _=>i-(intOf v).toNat)
       case atStart=>exact⟨0,aB _,rfl,HR⟩
       case round=>
        clear HR;obtain⟨g,hg,rfl,HR⟩:=hrel;by_cases hlt2:g<i
        · have hgi:(g:Int)< (i:Int):=by omega
          have HGL:Hid (g<x.gs.length):=ah (by have:=HN.out.1;omega);obtain⟨S3,hS3⟩:=aqx (upto g (iZ b x) S2);rw [<-hS3]at HR;have wR:=ah hS3;clear hS3;go_upto_region 19 with(go_at_call 26;refine(Ig.out g HGL.out _ _ HR.out.2 HR.out.1).mono ?_;rintro e w5 ⟨rfl,ha,hs⟩;have J7:=ah (ak ha (HR.out.2.trans hs));clear ha hs)
          go_upto_region 20 with(go_at_call 27;refine(HG2.out g HGL.out _ _ J7.out.2 J7.out.1).mono ?_;rintro e w6 ⟨rfl,ha,hs⟩;have HA6:=ah (ak ha (J7.out.2.trans hs));clear ha hs)
          go_upto_region 21 with(go_at_call 28;refine(HG3.out g HGL.out _ _ HA6.out.2 HA6.out.1).mono ?_;rintro e w7 ⟨rfl,ha,hs⟩;have V8:=ah (ak ha (HA6.out.2.trans hs));clear ha hs)
          go_wp2_with(go_at_call 29;refine(HG4.out g HGL.out _ _ V8.out.2 V8.out.1).mono ?_;rintro e w8 ⟨rfl,ha,hs⟩;have RS:=ah (ak ha (V8.out.2.trans hs));clear ha hs)
          go_roundw
          case rel=>exact⟨g+1,by omega,by go_num,ah ⟨by rw [upto_succ, <-wR.out];exact RS.out.1,RS.out.2⟩⟩
          case measure=>simp [intOf];omega
        · obtain rfl:g=i:=by omega
          have c32:=(CQ.out wr HR.out.2).2;obtain⟨S4,hS4⟩:=aqx (upto g (iZ b x) S2);rw [<-hS4]at HR;have HS4:=ah hS4;clear hS4;go_wp2_with fail
          clear c32;go_loopw [98] (fun v W=>∃k:Nat,k<=M/\ v= .int .i64 k/\ Hid (aU W p 75 12 (gu b x.ver a c (upto k (kR b x) S4))/\ Save p U W)) (fun v _=>M-(intOf v).toNat)
          case atStart=>exact⟨0,aB _,rfl,HR⟩
          case round=>
           clear HR;obtain⟨k,hk,rfl,HR⟩:=hrel;by_cases hlt3:k<M
           · have hkM:(k:Int)< (M:Int):=by omega
             have HKL:Hid (k<x.dH.length):=ah (by have:=HN.out.2;omega);go_wp2_with(go_at_call 30;refine(HG5.out k HKL.out _ _ HR.out.2 HR.out.1).mono ?_;rintro e w5 ⟨rfl,ha,hs⟩;have J7:=ah (ak ha (HR.out.2.trans hs));clear ha hs)
             go_roundw
             case rel=>exact⟨k+1,by omega,by go_num,ah ⟨by rw [upto_succ];exact J7.out.1,J7.out.2⟩⟩
             case measure=>simp [intOf];omega
           · obtain rfl:k=M:=by omega
             have c31:=(CQ.out wr HR.out.2).1;obtain⟨S5,hS5⟩:=aqx (upto k (kR b x) S4);rw [<-hS5]at HR;have VD:=ah hS5;clear hS5;obtain⟨MP,hMP⟩:∃f:Nat->Nat × Nat->Nat × Nat,f=fun g=>aZ (qh x g) 13 g:=⟨_,rfl⟩;have HMF:=ah hMP;clear hMP;go_wp2_with fail
             clear c31;go_loopw [108] (fun v W=>∃h:Nat,h<=g/\ v= .int .i64 h/\ Hid (aU W p 75 12 (gu b x.ver a c (upto h MP S5))/\ Save p U W)) (fun v _=>g-(intOf v).toNat)
             case atStart=>exact⟨0,aB _,rfl,HR⟩
             case round=>
              clear HR;obtain⟨h,hh,rfl,HR⟩:=hrel;by_cases hlt4:h<g
              · have hhg:(h:Int)< (g:Int):=by omega
                go_upto_region 32 with(first
                  |((with_reducible refine aqz 112 (.load _ _) ?_);refine bM rfl 31 _ rfl (q2+1) rfl _ (aQ (Fj.out.save HR.out.2 HPQ.out.2.1) Tryz.underlying31 rfl dR) ?_)
                  |(go_at_call 14;refine(HMP.out h _ HR.out.2).mono ?_;rintro e w5 ⟨⟨v5,n5,rfl,hn5⟩,hd5⟩;have J7:=ah (ak (HR.out.1.under hd5) (HR.out.2.trans (aH (g:=p) hd5)));clear hd5))
                go_wp2_with(go_at_call 23;refine(HM.out _ 13 h _ _ J7.out.1).mono ?_;rintro e w6 ⟨rfl,ha,hs⟩;have HA6:=ah (ak ha (J7.out.2.trans hs));clear ha hs)
                go_roundw
                case rel=>exact⟨h+1,by omega,by go_num,ah ⟨by rw [upto_succ,HMF.out];rw [HMF.out]at HA6;exact HA6.out.1,HA6.out.2⟩⟩
                case measure=>simp [intOf];omega
              · obtain rfl:h=g:=by omega
                obtain⟨S9,iJ⟩:=aqx (upto h MP S5);rw [<-iJ]at HR;have pO:Hid (S9=qB b x):=ah (by
                  rw [iJ,HMF.out,VD.out,HS4.out,HS2.out,HNF.out,V7.out,HN.out.1,HN.out.2]
                  rfl)
                clear iJ;have c10:=Tt HR.out.1;have c11:=OA HR.out.1;by_cases h9:S9.1=0
                · have hz9:((S9.1:Int) !=0)=false:=by simp [h9]
                  have HE:Hid (lU b x=(0,0,0)):=ah (by unfold lU;rw [<-V7.out,if_neg (by omega), <-pO.out,if_neg (by omega)]);clear h9;go_wp2_with fail
                  go_ret3
                  exact⟨by rw [HE.out];rfl,Ll.out.trans (HR.out.2.below HPQ.out.2.2 Ll.out.size)⟩
                · have hz9:((S9.1:Int) !=0)=true:=by simpa using h9
                  have HE:Hid (lU b x=(S9.1,S9.2,170)):=ah (by unfold lU;rw [<-V7.out,if_neg (by omega), <-pO.out,if_pos h9]);clear h9;go_upto_region 35 with fail
                  go_quiet (fail)
                  go_wp2_with fail
                  go_ret3
                  exact⟨by rw [HE.out];rfl,Ll.out.trans ((HR.out.2.drewN _).below HPQ.out.2.2 Ll.out.size)⟩
 · have hz0:((s0.1:Int) !=0)=true:=by simpa using h0
   have HE:Hid (lU b x=(s0.1,s0.2,170)):=ah (by unfold lU;rw [<-V7.out,if_pos h0]);clear h0;go_upto_region 6 with fail
   go_quiet (fail)
   go_wp2_with fail
   go_ret3
   exact⟨by rw [HE.out];rfl,Ll.out.trans ((Vt.out.2.drewN _).below HPQ.out.2.2 Ll.out.size)⟩
open Go.RowKit Go.Maps
attribute [local go_sem ↓ high] nK PG
theorem BX(b:Bd)(x:Cf)(a c:Value)(w:World)(hr:fit b.r)(hl:fit b.l)(hx:uw w w.heap.size x a c)(hb:Aj x):
   Calls Tryz.prog 3 #[.agg (vec 7 (kH b)),ji x a c] w fun e w'=>e= .returned (.bool true)/\ Below w.heap.size w w':=by
 obtain⟨A,d,A2,d2,rfl,rfl,hch,hgu⟩:=xG hx.1;obtain⟨NG,xu⟩:=aqx (x.gs.length);obtain⟨NC,JM⟩:=aqx (x.dH.length);obtain⟨V0,hV0⟩:=aqx ((w.alloc (.cells (vec 7 (kH b)) 26)).alloc (.cells (vec 3 (eX x.ver (.slice A NG d) (.slice A2 NC d2))) 31));obtain⟨r2,hr2⟩:=aqx (w.heap.size);obtain⟨r3,hr3⟩:=aqx (w.heap.size+1);have k2:aU V0 r2 26 7 (kH b):=(by rw [hV0,hr2];exact(aU.new w _ _ _).alloc _);have k3:aU V0 r3 31 3 (eX x.ver (.slice A NG d) (.slice A2 NC d2)):=(by rw [hV0,hr3];exact aU.newAt _ _ _ _ (by simp));have hB:Below w.heap.size w V0:=(by rw [hV0];exact(Below.aY w _).alloc (by simp) _);unfold ji;rw [<-xu, <-JM]at hx⊢;have HW:=ah hV0;have HR:=ah (ak hr2 hr3);have H0:=ah (ak hB (ak (ak k2 k3) (fun(Y:World) (hY:Below V0.heap.size V0 Y)=>(hx.below (hB.trans (hY.mono hB.size))).wide (aA hB.size hY.size))));have JL:=ah hb;have Qq:=ah (ak hr hl);have HNG:=ah (ak xu JM);clear hV0 k2 k3 hB hx hb hr2 hr3 hr hl xu JM hch hgu;go_enter Tryz.func3,Tryz.ntmps3;go_upto_region 1 with fail
 rw [<-HW.out, <-HR.out.2, <-HR.out.1];clear HW HR;go_upto_region 3 with(go_at_call 8;refine(aa' _).mono ?_;rintro e V ⟨rfl,hd⟩;have HAW:=ah hd;clear hd)
 have HV:Hid (Below w.heap.size w V):=ah (H0.out.1.trans (HAW.out.mono H0.out.1.size));have Yw:=ah (H0.out.2.1.1.under HAW.out);have Fj:=ah (H0.out.2.1.2.under HAW.out);have HX:Hid (∀Y,Below V.heap.size V Y->uw Y Y.heap.size x (.slice A NG d) (.slice A2 NC d2)):=(ah fun Y hY=>H0.out.2.2 Y (HAW.out.trans (Below.mono hY HAW.out.size)));have HD:Hid (Below V.heap.size V V):=ah (aC _ _);clear H0 HAW;obtain⟨fx,hfx⟩:=aqx (qU x);have HFA:Hid (∀Y,Below V.heap.size V Y->Calls Tryz.prog 9 #[.agg (vec 3 (eX x.ver (.slice A NG d) (.slice A2 NC d2)))] Y (abl fx Y)):=ah (fun Y hY=>by rw [hfx];exact abm x _ _ Y (HX.out Y hY).1);unfold abl at HFA;cases fx
 · clear hfx
   go_wp2_with(first
    |((with_reducible refine aqy (.load 31 _) ?_);refine bM rfl 31 _ rfl r3 rfl _ (aQ (Fj.out.under HD.out) Tryz.underlying31 rfl dR) ?_)
    |(go_at_call 9;refine(HFA.out _ HD.out).mono ?_;rintro e w1 ⟨rfl,hd⟩;have HD:=ah hd;clear hd))
   go_ret;exact⟨rfl,HV.out.trans (HD.out.mono HV.out.size)⟩
 have Em:=ah hfx.symm;clear hfx;have aaY:NG<=20:=(by rw [HNG.out.1];exact(iI Em.out).1);have apb:NC<=40:=(by rw [HNG.out.2];exact(iI Em.out).2.1);obtain⟨R0,hR0⟩:=aqx (lU b x);have HCK:Hid (∀Y,Below V.heap.size V Y->Calls Tryz.prog 10 #[.agg (vec 7 (kH b)),.agg (vec 3 (eX x.ver (.slice A NG d) (.slice A2 NC d2)))] Y fun e w'=>e= .returned (.tuple #[.int .i64 (R0.1:Int),.int .i64 (R0.2.1:Int),.int .i64 (R0.2.2:Int)])/\ Below Y.heap.size Y w'):=ah fun Y hY=>by
   rw [hR0];exact zS x _ _ b Y (HX.out Y hY) JL.out Em.out Qq.out.1 Qq.out.2
 have HR0:=ah hR0;clear hR0;obtain⟨q0,q1,q2⟩:=R0;go_upto_region 5 with(first
    |((with_reducible refine aqy (.load 31 _) ?_);refine bM rfl 31 _ rfl r3 rfl _ (aQ (Fj.out.under HD.out) Tryz.underlying31 rfl dR) ?_)
    |(go_at_call 9;refine(HFA.out _ HD.out).mono ?_;rintro e w1 ⟨rfl,hd⟩;have HD:=ah hd;clear hd))
 clear HFA;have HRK:Hid (∀Y,Below V.heap.size V Y->Calls Tryz.prog 11 #[.agg (vec 7 (kH b)),.agg (vec 3 (eX x.ver (.slice A NG d) (.slice A2 NC d2)))] Y fun e w'=>e= .returned (.tuple #[.int .i64 (q0:Int),.int .i64 (q1:Int),.int .i64 (q2:Int)])/\ Below Y.heap.size Y w'):=ah fun Y hY=>by
   have h:=QC Qx Qz Vs x _ _ b Y (HX.out Y hY) JL.out Em.out Qq.out.1 Qq.out.2;rw [<-HR0.out]at h;exact h
 have e0:((q0:Int)==(q0:Int))=true:=beq_self_eq_true _;have e1:((q1:Int)==(q1:Int))=true:=beq_self_eq_true _;have e2:((q2:Int)==(q2:Int))=true:=beq_self_eq_true _;go_upto_region 6 with(first
    |((with_reducible refine aqy (.load 26 _) ?_);refine bM rfl 26 _ rfl r2 rfl _ (aQ (Yw.out.under HD.out) Tryz.underlying26 rfl iU) ?_)
    |((with_reducible refine aqy (.load 31 _) ?_);refine bM rfl 31 _ rfl r3 rfl _ (aQ (Fj.out.under HD.out) Tryz.underlying31 rfl dR) ?_)
    |(go_at_call 10;refine(HCK.out _ HD.out).mono ?_;rintro e w2 ⟨rfl,hd⟩;have HD:=ah (HD.out.trans (Below.mono hd HD.out.size));clear hd))
 clear HCK;go_upto_region 7 with(first
    |((with_reducible refine aqy (.load 26 _) ?_);refine bM rfl 26 _ rfl r2 rfl _ (aQ (Yw.out.under HD.out) Tryz.underlying26 rfl iU) ?_)
    |((with_reducible refine aqy (.load 31 _) ?_);refine bM rfl 31 _ rfl r3 rfl _ (aQ (Fj.out.under HD.out) Tryz.underlying31 rfl dR) ?_)
    |(go_at_call 11;refine(HRK.out _ HD.out).mono ?_;rintro e w3 ⟨rfl,hd⟩;have HD:=ah (HD.out.trans (Below.mono hd HD.out.size));clear hd))
 go_wp2_with fail
 go_ret;exact⟨rfl,HV.out.trans (HD.out.mono HV.out.size)⟩
end Go.Proofs.YtkaipknkjocfiaaGreat
