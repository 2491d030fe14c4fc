import Derived.Test.YtkaipknkjocfiaaGreatZd20
set_option maxRecDepth 100000
set_option maxHeartbeats 64000000
namespace Go.Proofs.YtkaipknkjocfiaaGreat
open Go.RowKit
attribute [local go_sem ↓ high] jo oZ oU zq
theorem GH{p:Int}(h:0<=p/\ p<=7):(bits .and .i64 p 1 !=0)=xk p 0:=by
 rcases wH h with rfl|rfl|rfl|rfl|rfl|rfl|rfl|rfl<;>decide+kernel
theorem Qx:YP:=fun x a c b p B g s w hg hx hB hb hf hr hl hft her h=>by
 have hg:g<x.gs.length:=hg;obtain⟨-,A,d,ys,ha,hm,hrw,hcap⟩:=hx;have hBw:B<=w.heap.size:=aA hB (Nat.le_of_lt h.lt);have hpw:p<w.heap.size:=h.lt;have hlen:ys.length=x.gs.length:=(by rw [<-hm,List.length_map]);have hny:g<ys.length:=(by omega);obtain⟨a0,q,ea,hq,-,hcp⟩:=hrw.row.at hny;obtain⟨y,hy⟩:=aqx (ys[g]);rw [<-hy]at hcp;have hyg:y.g=x.gs[g]:=(by rw [hy];simp [<-hm]);have hgr:qI w B y:=(by rw [hy];exact hrw.all _ (ay _));obtain⟨A1,e1,w1,hc1⟩:=hcap y (by rw [hy];exact ay _);obtain⟨t,ht⟩:=aqx (x.gs[g]);obtain⟨A1',e1',f1',hrow1,-⟩:=hgr.wi;have hA1:A1=A1':=(by rw [w1]at f1';injection f1');rw [<-hA1]at hrow1;clear f1' hA1;obtain⟨A2,e2,w2,hrow2,-⟩:=hgr.de;rw [hyg, <-ht]at w1 hc1 hrow1 w2 hrow2;have wY:Hid (∀Y,Save p w Y->bI 4 bG Y B A1 t.wins/\ bI 3 iC Y B A2 t.dG):=(ah fun Y hY=>⟨hrow1.below (hY.below hB hBw),hrow2.below (hY.below hB hBw)⟩);have hP:wE b x g s=aZ (rV t) 7 g (aZ (oI t) 6 g (aZ (t.dG.all (vG b)) 5 g (aZ (t.wins.all (xO b)) 4 g s))):=(by unfold wE;rw [aF hg, <-ht]);rw [hP];have htb:=hb.gs _ (ay hg);have hfw:=jZ ((iI hf).2.2 _ (ay hg));have hpo:=Qj (zO her _ (ay hg));rw [<-ht]at htb hfw hpo;have hperm:∀v∈t.wins,0<=v.perm/\ v.perm<=7:=fun v hv=>by
  have:=hpo.wins v hv;unfold jr inB at this
  simpa using this
 have hwne:t.wins≠ []:=by
  have:=hpo.cnt;unfold tX inB at this;simp only [Bool.and_eq_true,decide_eq_true_eq]at this;intro e;rw [e]at this;simp at this
 have Ky:=ah htb;have HPM:=ah (ak hperm hwne);have HM:Hid (∀is (r:Nat) q W,aU W p 75 12 (gu b x.ver a c q)->Calls Tryz.prog 23 #[.pointer (some ⟨p,0,none⟩),.bool is,.int .i64 (r:Int),.int .i64 (g:Int)] W fun e w'=>e= .returned (.tuple #[])/\ aU w' p 75 12 (gu b x.ver a c (aZ is r g q))/\ Save p W w'):=ah (fun is r q W hW=>vM is r g p b x.ver a c q W hW);have HFR:=ah (ak hr hl);obtain⟨n1,hn1⟩:=aqx (t.wins.length);obtain⟨n2,hn2⟩:=aqx (t.dG.length);have aoR:n1<=20:=(by rw [hn1];exact hfw.1);have aoS:n2<=20:=(by rw [hn2];exact hfw.2.1);rw [<-hn1]at w1 hc1;rw [<-hn2]at w2;have HN:=ah (ak hn1 hn2);have hone:GV1 y:=hgr.one;have Ko:=ah hone;have gI:=ah hcp;obtain⟨NG,xu⟩:=aqx (x.gs.length);have c8:w.cell? ⟨p,8,none⟩=some (.slice A NG d):=(by rw [xu, <-ha];exact h.cell (i:=8) (by decide));have hgi:(g:Int)< (NG:Int):=(by omega);have aio:g<=20:=(by have:=(iI hf).1;omega);obtain⟨f1,hf1⟩:∃f:Nat->Bool,f=fun j=>xO b (t.wins.getD j JJ):=⟨_,rfl⟩;obtain⟨f2,hf2⟩:∃f:Nat->Bool,f=fun j=>vG b (t.dG.getD j zDe):=⟨_,rfl⟩;have HF1:Hid ((∀j (hj:j<t.wins.length),f1 j=xO b t.wins[j])/\ (List.range n1).all f1=t.wins.all (xO b)):=ah ⟨fun j hj=>by rw [hf1];simp [List.getD,hj],by rw [hf1,hn1];exact(yD _ _ _).symm⟩;have HF2:Hid ((∀j (hj:j<t.dG.length),f2 j=vG b t.dG[j])/\ (List.range n2).all f2=t.dG.all (vG b)):=ah ⟨fun j hj=>by rw [hf2];simp [List.getD,hj],by rw [hf2,hn2];exact(yD _ _ _).symm⟩;have HG5:Hid (aT y 5= .int .u64 t.entry/\ aT y 6= .int .u64 t.Ac):=ah (by constructor<;>(show Value.int _ _=_;rw [hyg, <-ht]));have Kz:=ah (ak w1 (ak w2 hc1));have HH:=ah (ak h hpw);subst ea;clear ha hm hrw hcap hBw hpw hlen hny hcp hy hyg hgr ht hrow1 hrow2 hP htb hfw hpo hperm hwne hr hl hn1 hn2 hone xu hf1 hf2 w1 w2 hc1 h hb hf hft her;go_enter Tryz.func27,Tryz.ntmps27;go_upto_region 1 with(first
  |((with_reducible refine aqy (.load 63 _) ?_);refine bC rfl 63 _ rfl q rfl _ (aW gI.out Tryz.underlying63 rfl dU) ?_)
  |((with_reducible refine aqy (.store 63 _ _) ?_);refine bD rfl 63 _ _ rfl _ rfl _ rfl (aS (aU.new w _ _ _) (aT y) dU (fC _ Ko.out _)) ?_))
 obtain⟨r4,hr4⟩:=aqx (w.heap.size);obtain⟨V,hX⟩:=aqx ((w.alloc (.cells (vec 79 (aT vw)) 63)).setRow w.heap.size (vec 79 (aT y)));have bx:Below w.heap.size w V:=(by rw [hX];exact bg ((aC _ _).alloc (aj _) _) (aj _) _);have ax:aU V r4 63 79 (aT y):=(by rw [hX,hr4];exact(aU.new w _ _ _).row _);rw [<-hX, <-hr4];have HK:Hid (aU V p 75 12 (gu b x.ver a c s)/\ aU V r4 63 79 (aT y)/\ Save p w V/\ r4≠p):=ah ⟨HH.out.1.under bx,ax,aH bx,by have:=HH.out.2;omega⟩;have c75:V.cell? ⟨r4,75,none⟩=some (.slice A1 n1 e1):=(ax.cell (i:=75) (by decide)).trans (congrArg some Kz.out.1);clear hX hr4 bx ax c8 hgi gI;go_upto_region 2 with fail
 clear c75;go_loopw [25] (fun v W=>∃j:Nat,j<=n1/\ v= .int .i64 j/\ Hid (aU W p 75 12 (gu b x.ver a c (aZ ((List.range j).all f1) 4 g s))/\ Save p V W)) (fun v _=>n1-(intOf v).toNat)
 case atStart=>exact⟨0,aB _,rfl,ah ⟨by rw [show(List.range 0).all f1=true from rfl,eP];exact HK.out.1,aI _ _⟩⟩
 case round=>
  obtain⟨j,hj,rfl,HR⟩:=hrel;obtain⟨W,hW⟩:=aqx wr;subst hW;by_cases hlt:j<n1
  · have hji:(j:Int)< (n1:Int):=by omega
    have hjl:j<t.wins.length:=(by have:=HN.out.1;omega);obtain⟨b1,q1,eb,hq1,-,hcp⟩:=(wY.out W (HK.out.2.2.1.trans HR.out.2)).1.at hjl;have hfj:=HF1.out.1 j hjl;have hvB:=Ky.out.wins _ (ay hjl);obtain⟨v,hv⟩:=aqx (t.wins[j]);rw [<-hv]at hcp hfj hvB;obtain⟨im,him⟩:=au hvB.1.1;obtain⟨pn,hpn⟩:=au hvB.2.1.1;obtain⟨sn,hsn⟩:=au hvB.2.2.1.1;have hsp:xg v=(pn,sn):=(by unfold xg;rw [hpn,hsn];rfl);have hfs:fit (pn,sn):=(by rw [<-hsp];exact⟨(dD (dZ hvB.2.1)).2,(dD (dZ hvB.2.2.1)).2⟩);unfold xO at hfj;rw [hsp,him,hsn]at hfj;obtain⟨P,Jy⟩:=aqx (v.perm);rw [<-Jy]at hfj;obtain⟨z1,hz1⟩:=aqx (uK (im:Int) (sn:Int));obtain⟨z2,hz2⟩:=aqx (eG (pn,sn));obtain⟨z3,hz3⟩:=aqx (decide (P≠0));obtain⟨z4,GK⟩:=aqx (within (pn,sn) b.r);obtain⟨z5,hz5⟩:=aqx (overlap (pn,sn) b.l);rw [<-hz1, <-hz2, <-hz3, <-GK, <-hz5]at hfj;have hpz:(P !=0)=z3:=(by rw [hz3];exact Bool.eq_iff_iff.2 (by simp));have xw:Hid (∀W,Calls Tryz.prog 34 #[.int .u64 (im:Int),.int .u64 (sn:Int)] W (jc z1 W)):=ah (by rw [hz1, <-him, <-hsn];exact fun W=>vK _ _ (dZ hvB.1) (dZ hvB.2.2.1) W);have HPS:Hid (∀W,Calls Tryz.prog 57 #[.agg (vec 2 (bQ (pn,sn)))] W (jc z2 W)):=ah (by rw [hz2];exact fun W=>Kw _ hfs W);have HWI:Hid (∀W,Calls Tryz.prog 59 #[.agg (vec 2 (bQ (pn,sn))),.agg (vec 2 (bQ b.r))] W (jc z4 W)):=ah (by rw [GK];exact fun W=>Ol _ _ hfs HFR.out.1 W);have Kq:Hid (∀W,Calls Tryz.prog 31 #[.agg (vec 2 (bQ (pn,sn))),.agg (vec 2 (bQ b.l))] W (jc z5 W)):=ah (by rw [hz5];exact fun W=>qM _ _ hfs HFR.out.2 W);unfold jc at xw HPS HWI Kq;have Jw:=ah hfj;have gI:=ah hcp;obtain⟨A0,hA0⟩:=aqx ((List.range j).all f1);rw [<-hA0]at HR;have Oo:=ah hA0;have xA:Hid (bG v 0= .int .u64 (im:Int)/\ bG v 1= .int .u64 (pn:Int)/\ bG v 2= .int .u64 (sn:Int)/\ bG v 3= .int .i64 P):=ah (by rw [<-him, <-hpn, <-hsn,Jy];exact⟨rfl,rfl,rfl,rfl⟩);subst eb;clear hcp hfj hvB hv him hpn hsn hsp hfs Jy hz1 hz2 hz3 GK hz5 hA0 hjl;go_upto_region 4 with(first
     |((with_reducible refine aqy (.load 67 _) ?_);refine bC rfl 67 _ rfl q1 rfl _ (aW gI.out Tryz.underlying67 rfl gQ) ?_)
     |((with_reducible refine aqy (.store 67 _ _) ?_);refine bD rfl 67 _ _ rfl _ rfl _ rfl (aS (aU.new W _ _ _) (bG v) gQ (mZ _ _)) ?_))
    obtain⟨r6,Xw⟩:=aqx (W.heap.size);obtain⟨X1,hX1⟩:=aqx ((W.alloc (.cells (vec 4 (bG JJ)) 67)).setRow W.heap.size (vec 4 (bG v)));have bx1:Below W.heap.size W X1:=(by rw [hX1];exact bg ((aC _ _).alloc (aj _) _) (aj _) _);have ax1:aU X1 r6 67 4 (bG v):=(by rw [hX1,Xw];exact(aU.new W _ _ _).row _);rw [<-hX1, <-Xw];have Eo:r6≠p:=(by have h1:=HR.out.1.lt;omega);have HB1:=ah (ak bx1 (ak ax1 Eo));have c0:X1.cell? ⟨r6,1,none⟩=some (.int .u64 (pn:Int)):=(by rw [<-xA.out.2.1];exact ax1.cell (i:=1) (by decide));have c1:X1.cell? ⟨r6,2,none⟩=some (.int .u64 (sn:Int)):=(by rw [<-xA.out.2.2.1];exact ax1.cell (i:=2) (by decide));clear hX1 Xw bx1 ax1 Eo;go_upto_region 5 with(first
     |((with_reducible refine aqy (.build _ _) ?_);refine dh rfl 24 _ rfl (vec 2 (bQ (pn,sn))) (by kernel_rfl) ?_)
     |((with_reducible refine aqy (.store 24 _ _) ?_);refine bD rfl 24 _ _ rfl _ rfl _ rfl (aS (aU.new X1 _ _ _) (bQ (pn,sn)) bZ (kP _ _)) ?_))
    obtain⟨r7,FB⟩:=aqx (X1.heap.size);obtain⟨X2,hX2⟩:=aqx ((X1.alloc (.cells (vec 2 (bQ (0,0))) 24)).setRow X1.heap.size (vec 2 (bQ (pn,sn))));have Ep:Below X1.heap.size X1 X2:=(by rw [hX2];exact bg ((aC _ _).alloc (aj _) _) (aj _) _);have Jz:aU X2 r7 24 2 (bQ (pn,sn)):=(by rw [hX2,FB];exact(aU.new X1 _ _ _).row _);rw [<-hX2, <-FB];obtain⟨bx1,ax1,Eo⟩:=HB1.out;have hrp:r6≠p/\ r7≠p:=(by have h1:=HR.out.1.lt;have h2:=bx1.size;omega);have HP7:Hid (∀Y,Save p X2 Y->aU Y r7 24 2 (bQ (pn,sn))):=(ah fun Y hY=>Jz.save hY hrp.2);have oC:Hid (∀Y,Save p X2 Y->Y.cell? ⟨r6,0,none⟩=some (.int .u64 (im:Int))/\ Y.cell? ⟨r6,2,none⟩=some (.int .u64 (sn:Int))/\ Y.cell? ⟨r6,3,none⟩=some (.int .i64 P)):=ah fun Y hY=>by
     have h1:=(ax1.under Ep).save hY hrp.1;rw [<-xA.out.1, <-xA.out.2.2.1, <-xA.out.2.2.2];exact⟨h1.cell (i:=0) (by decide),h1.cell (i:=2) (by decide),h1.cell (i:=3) (by decide)⟩
    have qV:Hid (aU X2 p 75 12 (gu b x.ver a c (aZ A0 4 g s))):=ah ((HR.out.1.under bx1).under Ep);have mY:Hid (Save p V X2):=ah ((HR.out.2.trans (aH bx1)).trans (aH Ep));clear bx1 ax1 Eo hX2 FB Ep Jz hrp c0 c1 gI xA HB1;cases z1
    case false=>
     have pO:Hid (Below X2.heap.size X2 X2.drew):=ah (below_drewN (aC _ _) 1);refine wp_region_held_drew (S:=fun Y=>(∃q,aU Y p 75 12 (gu b x.ver a c q))/\ Save p X2 Y) (by kernel_rfl) ⟨⟨_,(show aU X2.drew p 75 12 (gu b x.ver a c (aZ A0 4 g s))from qV.out)⟩,aH pO.out⟩ (fun hS=> ?_);obtain⟨Y0,hY0⟩:=aqx (X2.drew);have HB0:Hid (Below X2.heap.size X2 Y0):=ah (by rw [hY0];exact pO.out);rw [<-hY0]at hS⊢;clear hY0 pO;refine tP 0 ?_;refine tP 1 ?_;refine tP 2 (hy:=by(intro W hW;obtain⟨z0,z1⟩:=ak (oC.out W hW.2) True.intro;clear hW;go_split_ands;go_simp;(try with_reducible rfl))) ?_;refine tP 3 ?_;refine tP 4 (hy:=by(intro W hW;obtain⟨z0,z1⟩:=ak (oC.out W hW.2) True.intro;clear hW;go_split_ands;go_simp;(try with_reducible rfl))) ?_;refine tP 34 ?_;refine oQ 5 fun K5 hK5=> ?_;go_simp;refine(xw.out _).mono ?_;rintro e y5 ⟨rfl,hd⟩;have wI:=ah (HB0.out.trans (Below.mono hd HB0.out.size));refine hK5 _ _ ⟨⟨_,qV.out.under wI.out⟩,aH wI.out⟩ (fun hS5=> ?_);clear hd hK5 K5;refine tP 6 ?_;refine sQ 7 ?_;refine sQ 8 ?_;refine tP 9 ?_;refine tP 10 ?_;refine sQ 11 ?_;refine sQ 12 ?_;refine sQ 13 ?_;refine tP 14 ?_;refine tP 15 ?_;refine sQ 16 ?_;refine sQ 17 ?_;refine sQ 18 ?_;refine sQ 19 ?_;refine sQ 20 ?_;refine sQ 21 ?_;refine sQ 22 ?_;refine tP 23 ?_;refine tP 24 ?_;refine sQ 25 ?_;refine sQ 26 ?_;refine sQ 27 ?_;refine sQ 28 ?_;refine sQ 29 ?_;refine sQ 30 ?_;refine sQ 31 ?_;refine sQ 32 ?_;refine tP 33 ?_;refine oQ 35 fun Ot ru=> ?_;go_simp;refine(HM.out false 4 _ _ (qV.out.under wI.out)).mono ?_;rintro e uM ⟨rfl,ha,hs⟩;have bT:Hid (aU uM p 75 12 (gu b x.ver a c (aZ false 4 g (aZ A0 4 g s)))/\ Save p X2 uM):=ah ⟨ha,(aH wI.out).trans hs⟩;refine ru _ _ ⟨⟨_,ha⟩,bT.out.2⟩ (fun Ou=> ?_);clear ha hs ru Ot;refine wpAnyH_done (by kernel_rfl) ?_ _;have uq:Hid (aU uM p 75 12 (gu b x.ver a c (aZ ((List.range (j+1)).all f1) 4 g s))/\ Save p V uM):=ah (by
       have h1:f1 j=false:=Jw.out;have h2:=bT.out;rw [dP _ _ _ _ (by decide)]at h2;rw [bn,h1, <-Oo.out];exact⟨h2.1,mY.out.trans h2.2⟩)
     go_wp2_with fail
     go_roundw
     case rel=>exact⟨j+1,by omega,by go_num,uq⟩
     case measure=>simp [intOf];omega
    case true=>
     cases z2
     case false=>
       have pO:Hid (Below X2.heap.size X2 X2.drew):=ah (below_drewN (aC _ _) 1);refine wp_region_held_drew (S:=fun Y=>(∃q,aU Y p 75 12 (gu b x.ver a c q))/\ Save p X2 Y) (by kernel_rfl) ⟨⟨_,(show aU X2.drew p 75 12 (gu b x.ver a c (aZ A0 4 g s))from qV.out)⟩,aH pO.out⟩ (fun hS=> ?_);obtain⟨Y0,hY0⟩:=aqx (X2.drew);have HB0:Hid (Below X2.heap.size X2 Y0):=ah (by rw [hY0];exact pO.out);rw [<-hY0]at hS⊢;clear hY0 pO;refine tP 0 ?_;refine tP 1 ?_;refine tP 2 (hy:=by(intro W hW;obtain⟨z0,z1⟩:=ak (oC.out W hW.2) True.intro;clear hW;go_split_ands;go_simp;(try with_reducible rfl))) ?_;refine tP 3 ?_;refine tP 4 (hy:=by(intro W hW;obtain⟨z0,z1⟩:=ak (oC.out W hW.2) True.intro;clear hW;go_split_ands;go_simp;(try with_reducible rfl))) ?_;refine tP 34 ?_;refine oQ 5 fun K5 hK5=> ?_;go_simp;refine(xw.out _).mono ?_;rintro e y5 ⟨rfl,hd⟩;have wI:=ah (HB0.out.trans (Below.mono hd HB0.out.size));refine hK5 _ _ ⟨⟨_,qV.out.under wI.out⟩,aH wI.out⟩ (fun hS5=> ?_);clear hd hK5 K5;refine tP 6 ?_;refine tP 7 (v:= .agg (vec 2 (bQ (pn,sn)))) (hy:=by(intro W hW;exact bF 24 _ rfl r7 rfl _ (aQ (HP7.out W hW.2) Tryz.underlying24 rfl bZ))) ?_;refine oQ 8 fun K8 hK8=> ?_;go_simp;refine(HPS.out _).mono ?_;rintro e y8 ⟨rfl,hd⟩;have KA:=ah (wI.out.trans (Below.mono hd wI.out.size));refine hK8 _ _ ⟨⟨_,qV.out.under KA.out⟩,aH KA.out⟩ (fun qw=> ?_);clear hd hK8 K8;refine tP 9 ?_;refine tP 10 ?_;refine sQ 11 ?_;refine sQ 12 ?_;refine sQ 13 ?_;refine tP 14 ?_;refine tP 15 ?_;refine sQ 16 ?_;refine sQ 17 ?_;refine sQ 18 ?_;refine sQ 19 ?_;refine sQ 20 ?_;refine sQ 21 ?_;refine sQ 22 ?_;refine tP 23 ?_;refine tP 24 ?_;refine sQ 25 ?_;refine sQ 26 ?_;refine sQ 27 ?_;refine sQ 28 ?_;refine sQ 29 ?_;refine sQ 30 ?_;refine sQ 31 ?_;refine sQ 32 ?_;refine tP 33 ?_;refine oQ 35 fun Ot ru=> ?_;go_simp;refine(HM.out false 4 _ _ (qV.out.under KA.out)).mono ?_;rintro e uM ⟨rfl,ha,hs⟩;have bT:Hid (aU uM p 75 12 (gu b x.ver a c (aZ false 4 g (aZ A0 4 g s)))/\ Save p X2 uM):=ah ⟨ha,(aH KA.out).trans hs⟩;refine ru _ _ ⟨⟨_,ha⟩,bT.out.2⟩ (fun Ou=> ?_);clear ha hs ru Ot;refine wpAnyH_done (by kernel_rfl) ?_ _;have uq:Hid (aU uM p 75 12 (gu b x.ver a c (aZ ((List.range (j+1)).all f1) 4 g s))/\ Save p V uM):=ah (by
        have h1:f1 j=false:=Jw.out;have h2:=bT.out;rw [dP _ _ _ _ (by decide)]at h2;rw [bn,h1, <-Oo.out];exact⟨h2.1,mY.out.trans h2.2⟩)
       go_wp2_with fail
       go_roundw
       case rel=>exact⟨j+1,by omega,by go_num,uq⟩
       case measure=>simp [intOf];omega
     case true=>
       cases z3
       case false=>
        have pO:Hid (Below X2.heap.size X2 X2.drew):=ah (below_drewN (aC _ _) 1);refine wp_region_held_drew (S:=fun Y=>(∃q,aU Y p 75 12 (gu b x.ver a c q))/\ Save p X2 Y) (by kernel_rfl) ⟨⟨_,(show aU X2.drew p 75 12 (gu b x.ver a c (aZ A0 4 g s))from qV.out)⟩,aH pO.out⟩ (fun hS=> ?_);obtain⟨Y0,hY0⟩:=aqx (X2.drew);have HB0:Hid (Below X2.heap.size X2 Y0):=ah (by rw [hY0];exact pO.out);rw [<-hY0]at hS⊢;clear hY0 pO;refine tP 0 ?_;refine tP 1 ?_;refine tP 2 (hy:=by(intro W hW;obtain⟨z0,z1⟩:=ak (oC.out W hW.2) True.intro;clear hW;go_split_ands;go_simp;(try with_reducible rfl))) ?_;refine tP 3 ?_;refine tP 4 (hy:=by(intro W hW;obtain⟨z0,z1⟩:=ak (oC.out W hW.2) True.intro;clear hW;go_split_ands;go_simp;(try with_reducible rfl))) ?_;refine tP 34 ?_;refine oQ 5 fun K5 hK5=> ?_;go_simp;refine(xw.out _).mono ?_;rintro e y5 ⟨rfl,hd⟩;have wI:=ah (HB0.out.trans (Below.mono hd HB0.out.size));refine hK5 _ _ ⟨⟨_,qV.out.under wI.out⟩,aH wI.out⟩ (fun hS5=> ?_);clear hd hK5 K5;refine tP 6 ?_;refine tP 7 (v:= .agg (vec 2 (bQ (pn,sn)))) (hy:=by(intro W hW;exact bF 24 _ rfl r7 rfl _ (aQ (HP7.out W hW.2) Tryz.underlying24 rfl bZ))) ?_;refine oQ 8 fun K8 hK8=> ?_;go_simp;refine(HPS.out _).mono ?_;rintro e y8 ⟨rfl,hd⟩;have KA:=ah (wI.out.trans (Below.mono hd wI.out.size));refine hK8 _ _ ⟨⟨_,qV.out.under KA.out⟩,aH KA.out⟩ (fun qw=> ?_);clear hd hK8 K8;refine tP 9 ?_;refine tP 10 ?_;refine tP 11 ?_;refine tP 12 (hy:=by(intro W hW;obtain⟨z0,z1⟩:=ak (oC.out W hW.2) True.intro;clear hW;go_split_ands;go_simp;(try with_reducible rfl))) ?_;refine tP 13 ?_;refine tP 14 ?_;refine tP 15 ?_;refine sQ 16 ?_;refine sQ 17 ?_;refine sQ 18 ?_;refine sQ 19 ?_;refine sQ 20 ?_;refine sQ 21 ?_;refine sQ 22 ?_;refine tP 23 ?_;refine tP 24 ?_;refine sQ 25 ?_;refine sQ 26 ?_;refine sQ 27 ?_;refine sQ 28 ?_;refine sQ 29 ?_;refine sQ 30 ?_;refine sQ 31 ?_;refine sQ 32 ?_;refine tP 33 ?_;refine oQ 35 fun Ot ru=> ?_;go_simp;refine(HM.out false 4 _ _ (qV.out.under KA.out)).mono ?_;rintro e uM ⟨rfl,ha,hs⟩;have bT:Hid (aU uM p 75 12 (gu b x.ver a c (aZ false 4 g (aZ A0 4 g s)))/\ Save p X2 uM):=ah ⟨ha,(aH KA.out).trans hs⟩;refine ru _ _ ⟨⟨_,ha⟩,bT.out.2⟩ (fun Ou=> ?_);clear ha hs ru Ot;refine wpAnyH_done (by kernel_rfl) ?_ _
        have uq:Hid (aU uM p 75 12 (gu b x.ver a c (aZ ((List.range (j+1)).all f1) 4 g s))/\ Save p V uM):=ah (by
         have h1:f1 j=false:=Jw.out;have h2:=bT.out;rw [dP _ _ _ _ (by decide)]at h2;rw [bn,h1, <-Oo.out];exact⟨h2.1,mY.out.trans h2.2⟩)
        go_wp2_with fail
        go_roundw
        case rel=>exact⟨j+1,by omega,by go_num,uq⟩
        case measure=>simp [intOf];omega
       case true=>
        cases z4
        case false=>
         have pO:Hid (Below X2.heap.size X2 X2.drew):=ah (below_drewN (aC _ _) 1);refine wp_region_held_drew (S:=fun Y=>(∃q,aU Y p 75 12 (gu b x.ver a c q))/\ Save p X2 Y) (by kernel_rfl) ⟨⟨_,(show aU X2.drew p 75 12 (gu b x.ver a c (aZ A0 4 g s))from qV.out)⟩,aH pO.out⟩ (fun hS=> ?_);obtain⟨Y0,hY0⟩:=aqx (X2.drew);have HB0:Hid (Below X2.heap.size X2 Y0):=ah (by rw [hY0];exact pO.out);rw [<-hY0]at hS⊢;clear hY0 pO;refine tP 0 ?_;refine tP 1 ?_;refine tP 2 (hy:=by(intro W hW;obtain⟨z0,z1⟩:=ak (oC.out W hW.2) True.intro;clear hW;go_split_ands;go_simp;(try with_reducible rfl))) ?_;refine tP 3 ?_;refine tP 4 (hy:=by(intro W hW;obtain⟨z0,z1⟩:=ak (oC.out W hW.2) True.intro;clear hW;go_split_ands;go_simp;(try with_reducible rfl))) ?_;refine tP 34 ?_;refine oQ 5 fun K5 hK5=> ?_;go_simp;refine(xw.out _).mono ?_;rintro e y5 ⟨rfl,hd⟩;have wI:=ah (HB0.out.trans (Below.mono hd HB0.out.size));refine hK5 _ _ ⟨⟨_,qV.out.under wI.out⟩,aH wI.out⟩ (fun hS5=> ?_);clear hd hK5 K5;refine tP 6 ?_;refine tP 7 (v:= .agg (vec 2 (bQ (pn,sn)))) (hy:=by(intro W hW;exact bF 24 _ rfl r7 rfl _ (aQ (HP7.out W hW.2) Tryz.underlying24 rfl bZ))) ?_;refine oQ 8 fun K8 hK8=> ?_;go_simp;refine(HPS.out _).mono ?_;rintro e y8 ⟨rfl,hd⟩;have KA:=ah (wI.out.trans (Below.mono hd wI.out.size));refine hK8 _ _ ⟨⟨_,qV.out.under KA.out⟩,aH KA.out⟩ (fun qw=> ?_);clear hd hK8 K8;refine tP 9 ?_;refine tP 10 ?_;refine tP 11 ?_;refine tP 12 (hy:=by(intro W hW;obtain⟨z0,z1⟩:=ak (oC.out W hW.2) True.intro;clear hW;go_split_ands;go_simp;(try with_reducible rfl))) ?_;refine tP 13 ?_;refine tP 14 ?_;refine tP 15 ?_;refine tP 16 (v:= .agg (vec 2 (bQ (pn,sn)))) (hy:=by(intro W hW;exact bF 24 _ rfl r7 rfl _ (aQ (HP7.out W hW.2) Tryz.underlying24 rfl bZ))) ?_;refine tP 17 ?_;refine tP 18 ?_;refine tP 19 ?_;refine tP 20 ?_;refine tP 21 (v:= .agg (vec 2 (bQ b.r))) (hy:=by(intro W hW;obtain⟨q5,hq5⟩:=hW.1;exact dI 24 _ rfl ⟨p,0,none⟩ (by first|rfl|(simp;done)) _ (aW (Gz hq5) Tryz.underlying24 rfl bZ))) ?_;refine oQ 22 fun K22 YQ=> ?_;go_simp;refine(HWI.out _).mono ?_;rintro e y22 ⟨rfl,hd⟩;have KC:=ah (KA.out.trans (Below.mono hd KA.out.size));refine YQ _ _ ⟨⟨_,qV.out.under KC.out⟩,aH KC.out⟩ (fun ak'=> ?_)
         clear hd YQ K22;refine tP 23 ?_;refine tP 24 ?_;refine sQ 25 ?_;refine sQ 26 ?_;refine sQ 27 ?_;refine sQ 28 ?_;refine sQ 29 ?_;refine sQ 30 ?_;refine sQ 31 ?_;refine sQ 32 ?_;refine tP 33 ?_;refine oQ 35 fun Ot ru=> ?_;go_simp;refine(HM.out false 4 _ _ (qV.out.under KC.out)).mono ?_;rintro e uM ⟨rfl,ha,hs⟩;have bT:Hid (aU uM p 75 12 (gu b x.ver a c (aZ false 4 g (aZ A0 4 g s)))/\ Save p X2 uM):=ah ⟨ha,(aH KC.out).trans hs⟩;refine ru _ _ ⟨⟨_,ha⟩,bT.out.2⟩ (fun Ou=> ?_);clear ha hs ru Ot;refine wpAnyH_done (by kernel_rfl) ?_ _;have uq:Hid (aU uM p 75 12 (gu b x.ver a c (aZ ((List.range (j+1)).all f1) 4 g s))/\ Save p V uM):=ah (by
          have h1:f1 j=false:=Jw.out;have h2:=bT.out;rw [dP _ _ _ _ (by decide)]at h2;rw [bn,h1, <-Oo.out];exact⟨h2.1,mY.out.trans h2.2⟩)
         go_wp2_with fail
         go_roundw
         case rel=>exact⟨j+1,by omega,by go_num,uq⟩
         case measure=>simp [intOf];omega
        case true=>
         have pO:Hid (Below X2.heap.size X2 X2.drew):=ah (below_drewN (aC _ _) 1);refine wp_region_held_drew (S:=fun Y=>(∃q,aU Y p 75 12 (gu b x.ver a c q))/\ Save p X2 Y) (by kernel_rfl) ⟨⟨_,(show aU X2.drew p 75 12 (gu b x.ver a c (aZ A0 4 g s))from qV.out)⟩,aH pO.out⟩ (fun hS=> ?_);obtain⟨Y0,hY0⟩:=aqx (X2.drew);have HB0:Hid (Below X2.heap.size X2 Y0):=ah (by rw [hY0];exact pO.out);rw [<-hY0]at hS⊢;clear hY0 pO;refine tP 0 ?_;refine tP 1 ?_;refine tP 2 (hy:=by(intro W hW;obtain⟨z0,z1⟩:=ak (oC.out W hW.2) True.intro;clear hW;go_split_ands;go_simp;(try with_reducible rfl))) ?_;refine tP 3 ?_;refine tP 4 (hy:=by(intro W hW;obtain⟨z0,z1⟩:=ak (oC.out W hW.2) True.intro;clear hW;go_split_ands;go_simp;(try with_reducible rfl))) ?_;refine tP 34 ?_;refine oQ 5 fun K5 hK5=> ?_;go_simp;refine(xw.out _).mono ?_;rintro e y5 ⟨rfl,hd⟩;have wI:=ah (HB0.out.trans (Below.mono hd HB0.out.size));refine hK5 _ _ ⟨⟨_,qV.out.under wI.out⟩,aH wI.out⟩ (fun hS5=> ?_);clear hd hK5 K5;refine tP 6 ?_;refine tP 7 (v:= .agg (vec 2 (bQ (pn,sn)))) (hy:=by(intro W hW;exact bF 24 _ rfl r7 rfl _ (aQ (HP7.out W hW.2) Tryz.underlying24 rfl bZ))) ?_;refine oQ 8 fun K8 hK8=> ?_;go_simp;refine(HPS.out _).mono ?_;rintro e y8 ⟨rfl,hd⟩;have KA:=ah (wI.out.trans (Below.mono hd wI.out.size));refine hK8 _ _ ⟨⟨_,qV.out.under KA.out⟩,aH KA.out⟩ (fun qw=> ?_);clear hd hK8 K8;refine tP 9 ?_;refine tP 10 ?_;refine tP 11 ?_;refine tP 12 (hy:=by(intro W hW;obtain⟨z0,z1⟩:=ak (oC.out W hW.2) True.intro;clear hW;go_split_ands;go_simp;(try with_reducible rfl))) ?_;refine tP 13 ?_;refine tP 14 ?_;refine tP 15 ?_;refine tP 16 (v:= .agg (vec 2 (bQ (pn,sn)))) (hy:=by(intro W hW;exact bF 24 _ rfl r7 rfl _ (aQ (HP7.out W hW.2) Tryz.underlying24 rfl bZ))) ?_;refine tP 17 ?_;refine tP 18 ?_;refine tP 19 ?_;refine tP 20 ?_;refine tP 21 (v:= .agg (vec 2 (bQ b.r))) (hy:=by(intro W hW;obtain⟨q5,hq5⟩:=hW.1;exact dI 24 _ rfl ⟨p,0,none⟩ (by first|rfl|(simp;done)) _ (aW (Gz hq5) Tryz.underlying24 rfl bZ))) ?_;refine oQ 22 fun K22 YQ=> ?_;go_simp;refine(HWI.out _).mono ?_;rintro e y22 ⟨rfl,hd⟩;have KC:=ah (KA.out.trans (Below.mono hd KA.out.size));refine YQ _ _ ⟨⟨_,qV.out.under KC.out⟩,aH KC.out⟩ (fun ak'=> ?_)
         clear hd YQ K22;refine tP 23 ?_;refine tP 24 ?_;refine tP 25 (v:= .agg (vec 2 (bQ (pn,sn)))) (hy:=by(intro W hW;exact bF 24 _ rfl r7 rfl _ (aQ (HP7.out W hW.2) Tryz.underlying24 rfl bZ))) ?_;refine tP 26 ?_;refine tP 27 ?_;refine tP 28 ?_;refine tP 29 ?_;refine tP 30 (v:= .agg (vec 2 (bQ b.l))) (hy:=by(intro W hW;obtain⟨q5,hq5⟩:=hW.1;exact dI 24 _ rfl ⟨p,2,none⟩ (by first|rfl|(simp;done)) _ (aW (Ti hq5) Tryz.underlying24 rfl bZ))) ?_;refine oQ 31 fun K31 aip=> ?_;go_simp;refine(Kq.out _).mono ?_;rintro e y31 ⟨rfl,hd⟩;have abg:=ah (KC.out.trans (Below.mono hd KC.out.size));refine aip _ _ ⟨⟨_,qV.out.under abg.out⟩,aH abg.out⟩ (fun aoU=> ?_);clear hd aip K31;refine tP 32 ?_;refine tP 33 ?_;refine oQ 35 fun Ot ru=> ?_;go_simp;refine(HM.out (!z5) 4 _ _ (qV.out.under abg.out)).mono ?_;rintro e uM ⟨rfl,ha,hs⟩;have bT:Hid (aU uM p 75 12 (gu b x.ver a c (aZ (!z5) 4 g (aZ A0 4 g s)))/\ Save p X2 uM):=ah ⟨ha,(aH abg.out).trans hs⟩;refine ru _ _ ⟨⟨_,ha⟩,bT.out.2⟩ (fun Ou=> ?_);clear ha hs ru Ot;refine wpAnyH_done (by kernel_rfl) ?_ _;have uq:Hid (aU uM p 75 12 (gu b x.ver a c (aZ ((List.range (j+1)).all f1) 4 g s))/\ Save p V uM):=ah (by
          have h1:f1 j=(!z5):=Jw.out;have h2:=bT.out;rw [dP _ _ _ _ (by decide)]at h2;rw [bn,h1, <-Oo.out];exact⟨h2.1,mY.out.trans h2.2⟩)
         go_wp2_with fail
         go_roundw
         case rel=>exact⟨j+1,by omega,by go_num,uq⟩
         case measure=>simp [intOf];omega
  · obtain rfl:n1=j:=by omega
    have hjj:¬ (n1:Int)< (n1:Int):=(by omega);obtain⟨s1,hs1⟩:=aqx (aZ (t.wins.all (xO b)) 4 g s);rw [HF1.out.2, <-hs1]at HR;have YR:=ah hs1;have c76:W.cell? ⟨r4,76,none⟩=some (.slice A2 n2 e2):=((HK.out.2.1.save HR.out.2 HK.out.2.2.2).cell (i:=76) (by decide)).trans (congrArg some Kz.out.2.1);go_upto_region 8 with fail
    clear c76 hjj hs1;go_loopw [74] (fun v W=>∃j:Nat,j<=n2/\ v= .int .i64 j/\ Hid (aU W p 75 12 (gu b x.ver a c (aZ ((List.range j).all f2) 5 g s1))/\ Save p V W)) (fun v _=>n2-(intOf v).toNat)
    case atStart=>exact⟨0,aB _,rfl,ah ⟨by rw [show(List.range 0).all f2=true from rfl,eP];exact HR.out.1,HR.out.2⟩⟩
    case round=>
     clear HR;obtain⟨j,hj2,rfl,HR⟩:=hrel;obtain⟨W,hW⟩:=aqx wr;subst hW;by_cases hlt:j<n2
     · have hji:(j:Int)< (n2:Int):=by omega
       have hjl:j<t.dG.length:=(by have:=HN.out.2;omega);obtain⟨b1,q1,eb,hq1,-,hcp⟩:=(wY.out W (HK.out.2.2.1.trans HR.out.2)).2.at hjl;have hfj:=HF2.out.1 j hjl;have hvB:=Ky.out.dG _ (ay hjl);obtain⟨v,hv⟩:=aqx (t.dG[j]);rw [<-hv]at hcp hfj hvB;obtain⟨im,him⟩:=au hvB.1.1;obtain⟨pn,hpn⟩:=au hvB.2.1.1;obtain⟨sn,hsn⟩:=au hvB.2.2.1;have hsp:BU v=(pn,sn):=(by unfold BU;rw [hpn,hsn];rfl);have hfs:fit (pn,sn):=(by rw [<-hsp];exact⟨(dD (dZ hvB.2.1)).2,(dD (dZ hvB.2.2)).2⟩);unfold vG at hfj;rw [hsp,him,hpn,hsn]at hfj;obtain⟨z1,hz1⟩:=aqx (uK (im:Int) (sn:Int));obtain⟨z2,hz2⟩:=aqx (uK (pn:Int) (sn:Int));obtain⟨z3,hz3⟩:=aqx (overlap (pn,sn) b.r);rw [<-hz1, <-hz2, <-hz3]at hfj;have xw:Hid (∀W,Calls Tryz.prog 34 #[.int .u64 (im:Int),.int .u64 (sn:Int)] W (jc z1 W)):=ah (by rw [hz1, <-him, <-hsn];exact fun W=>vK _ _ (dZ hvB.1) (dZ hvB.2.2) W);have HPS:Hid (∀W,Calls Tryz.prog 34 #[.int .u64 (pn:Int),.int .u64 (sn:Int)] W (jc z2 W)):=ah (by rw [hz2, <-hpn, <-hsn];exact fun W=>vK _ _ (dZ hvB.2.1) (dZ hvB.2.2) W);have Kq:Hid (∀W,Calls Tryz.prog 31 #[.agg (vec 2 (bQ (pn,sn))),.agg (vec 2 (bQ b.r))] W (jc z3 W)):=ah (by rw [hz3];exact fun W=>qM _ _ hfs HFR.out.1 W);unfold jc at xw HPS Kq;have Jw:=ah hfj;have gI:=ah hcp;obtain⟨A0,hA0⟩:=aqx ((List.range j).all f2);rw [<-hA0]at HR;have Oo:=ah hA0;have xA:Hid (iC v 0= .int .u64 (im:Int)/\ iC v 1= .int .u64 (pn:Int)/\ iC v 2= .int .u64 (sn:Int)):=ah (by rw [<-him, <-hpn, <-hsn];exact⟨rfl,rfl,rfl⟩);subst eb;clear hcp hfj hvB hv him hpn hsn hsp hfs hz1 hz2 hz3 hA0 hjl;go_upto_region 10 with(first
        |((with_reducible refine aqy (.load 83 _) ?_);refine bC rfl 83 _ rfl q1 rfl _ (aW gI.out Tryz.underlying83 rfl qG) ?_)
        |((with_reducible refine aqy (.store 83 _ _) ?_);refine bD rfl 83 _ _ rfl _ rfl _ rfl (aS (aU.new W _ _ _) (iC v) qG (xC _ _)) ?_))
       obtain⟨r9,hr9⟩:=aqx (W.heap.size);obtain⟨X2,hX2⟩:=aqx ((W.alloc (.cells (vec 3 (iC zDe)) 83)).setRow W.heap.size (vec 3 (iC v)));have Ep:Below W.heap.size W X2:=(by rw [hX2];exact bg ((aC _ _).alloc (aj _) _) (aj _) _);have Jz:aU X2 r9 83 3 (iC v):=(by rw [hX2,hr9];exact(aU.new W _ _ _).row _);rw [<-hX2, <-hr9];have Eo:r9≠p:=(by have h1:=HR.out.1.lt;omega);have oC:Hid (∀Y,Save p X2 Y->Y.cell? ⟨r9,0,none⟩=some (.int .u64 (im:Int))/\ Y.cell? ⟨r9,1,none⟩=some (.int .u64 (pn:Int))/\ Y.cell? ⟨r9,2,none⟩=some (.int .u64 (sn:Int))):=ah fun Y hY=>by
        have h1:=Jz.save hY Eo;rw [<-xA.out.1, <-xA.out.2.1, <-xA.out.2.2];exact⟨h1.cell (i:=0) (by decide),h1.cell (i:=1) (by decide),h1.cell (i:=2) (by decide)⟩
       have qV:Hid (aU X2 p 75 12 (gu b x.ver a c (aZ A0 5 g s1))):=ah (HR.out.1.under Ep);have mY:Hid (Save p V X2):=ah (HR.out.2.trans (aH Ep));clear hX2 hr9 Ep Jz Eo gI xA;cases z1
       case false=>
        have pO:Hid (Below X2.heap.size X2 X2.drew):=ah (below_drewN (aC _ _) 1);refine wp_region_held_drew (S:=fun Y=>(∃q,aU Y p 75 12 (gu b x.ver a c q))/\ Save p X2 Y) (by kernel_rfl) ⟨⟨_,(show aU X2.drew p 75 12 (gu b x.ver a c (aZ A0 5 g s1))from qV.out)⟩,aH pO.out⟩ (fun hS=> ?_);obtain⟨Y0,hY0⟩:=aqx (X2.drew);have HB0:Hid (Below X2.heap.size X2 Y0):=ah (by rw [hY0];exact pO.out);rw [<-hY0]at hS⊢;clear hY0 pO;refine tP 0 ?_;refine tP 1 ?_;refine tP 2 (hy:=by(intro W hW;obtain⟨z0,z1⟩:=ak (oC.out W hW.2) True.intro;clear hW;go_split_ands;go_simp;(try with_reducible rfl))) ?_;refine tP 3 ?_;refine tP 4 (hy:=by(intro W hW;obtain⟨z0,z1⟩:=ak (oC.out W hW.2) True.intro;clear hW;go_split_ands;go_simp;(try with_reducible rfl))) ?_;refine tP 27 ?_;refine oQ 5 fun K5 hK5=> ?_;go_simp;refine(xw.out _).mono ?_;rintro e y5 ⟨rfl,hd⟩;have wI:=ah (HB0.out.trans (Below.mono hd HB0.out.size));refine hK5 _ _ ⟨⟨_,qV.out.under wI.out⟩,aH wI.out⟩ (fun hS5=> ?_);clear hd hK5 K5;refine tP 6 ?_;refine sQ 7 ?_;refine sQ 8 ?_;refine sQ 9 ?_;refine sQ 10 ?_;refine sQ 11 ?_;refine tP 12 ?_;refine tP 13 ?_;refine sQ 14 ?_;refine sQ 15 ?_;refine sQ 16 ?_;refine sQ 17 ?_;refine sQ 18 ?_;refine sQ 19 ?_;refine sQ 20 ?_;refine sQ 21 ?_;refine sQ 22 ?_;refine sQ 23 ?_;refine sQ 24 ?_;refine sQ 25 ?_;refine tP 26 ?_;refine oQ 28 fun K28 Ov=> ?_;go_simp;refine(HM.out false 5 _ _ (qV.out.under wI.out)).mono ?_;rintro e y28 ⟨rfl,ha,hs⟩;have bT:Hid (aU y28 p 75 12 (gu b x.ver a c (aZ false 5 g (aZ A0 5 g s1)))/\ Save p X2 y28):=ah ⟨ha,(aH wI.out).trans hs⟩;refine Ov _ _ ⟨⟨_,ha⟩,bT.out.2⟩ (fun air=> ?_);clear ha hs Ov K28;refine wpAnyH_done (by kernel_rfl) ?_ _;have uq:Hid (aU y28 p 75 12 (gu b x.ver a c (aZ ((List.range (j+1)).all f2) 5 g s1))/\ Save p V y28):=ah (by
         have h1:f2 j=false:=Jw.out;have h2:=bT.out;rw [dP _ _ _ _ (by decide)]at h2;rw [bn,h1, <-Oo.out];exact⟨h2.1,mY.out.trans h2.2⟩)
        go_wp2_with fail
        go_roundw
        case rel=>exact⟨j+1,by omega,by go_num,uq⟩
        case measure=>simp [intOf];omega
       case true=>
        cases z2
        case false=>
         have pO:Hid (Below X2.heap.size X2 X2.drew):=ah (below_drewN (aC _ _) 1);refine wp_region_held_drew (S:=fun Y=>(∃q,aU Y p 75 12 (gu b x.ver a c q))/\ Save p X2 Y) (by kernel_rfl) ⟨⟨_,(show aU X2.drew p 75 12 (gu b x.ver a c (aZ A0 5 g s1))from qV.out)⟩,aH pO.out⟩ (fun hS=> ?_);obtain⟨Y0,hY0⟩:=aqx (X2.drew);have HB0:Hid (Below X2.heap.size X2 Y0):=ah (by rw [hY0];exact pO.out);rw [<-hY0]at hS⊢;clear hY0 pO;refine tP 0 ?_;refine tP 1 ?_;refine tP 2 (hy:=by(intro W hW;obtain⟨z0,z1⟩:=ak (oC.out W hW.2) True.intro;clear hW;go_split_ands;go_simp;(try with_reducible rfl))) ?_;refine tP 3 ?_;refine tP 4 (hy:=by(intro W hW;obtain⟨z0,z1⟩:=ak (oC.out W hW.2) True.intro;clear hW;go_split_ands;go_simp;(try with_reducible rfl))) ?_;refine tP 27 ?_;refine oQ 5 fun K5 hK5=> ?_;go_simp;refine(xw.out _).mono ?_;rintro e y5 ⟨rfl,hd⟩;have wI:=ah (HB0.out.trans (Below.mono hd HB0.out.size));refine hK5 _ _ ⟨⟨_,qV.out.under wI.out⟩,aH wI.out⟩ (fun hS5=> ?_);clear hd hK5 K5;refine tP 6 ?_;refine tP 7 ?_;refine tP 8 (hy:=by(intro W hW;obtain⟨z0,z1⟩:=ak (oC.out W hW.2) True.intro;clear hW;go_split_ands;go_simp;(try with_reducible rfl))) ?_;refine tP 9 ?_;refine tP 10 (hy:=by(intro W hW;obtain⟨z0,z1⟩:=ak (oC.out W hW.2) True.intro;clear hW;go_split_ands;go_simp;(try with_reducible rfl))) ?_;refine oQ 11 fun nN dN=> ?_;go_simp;refine(HPS.out _).mono ?_;rintro e jq ⟨rfl,hd⟩;have KD:=ah (wI.out.trans (Below.mono hd wI.out.size));refine dN _ _ ⟨⟨_,qV.out.under KD.out⟩,aH KD.out⟩ (fun dB=> ?_);clear hd dN nN;refine tP 12 ?_;refine tP 13 ?_;refine sQ 14 ?_;refine sQ 15 ?_;refine sQ 16 ?_;refine sQ 17 ?_;refine sQ 18 ?_;refine sQ 19 ?_;refine sQ 20 ?_;refine sQ 21 ?_;refine sQ 22 ?_;refine sQ 23 ?_;refine sQ 24 ?_;refine sQ 25 ?_;refine tP 26 ?_;refine oQ 28 fun K28 Ov=> ?_;go_simp;refine(HM.out false 5 _ _ (qV.out.under KD.out)).mono ?_;rintro e y28 ⟨rfl,ha,hs⟩;have bT:Hid (aU y28 p 75 12 (gu b x.ver a c (aZ false 5 g (aZ A0 5 g s1)))/\ Save p X2 y28):=ah ⟨ha,(aH KD.out).trans hs⟩;refine Ov _ _ ⟨⟨_,ha⟩,bT.out.2⟩ (fun air=> ?_);clear ha hs Ov K28;refine wpAnyH_done (by kernel_rfl) ?_ _;have uq:Hid (aU y28 p 75 12 (gu b x.ver a c (aZ ((List.range (j+1)).all f2) 5 g s1))/\ Save p V y28):=ah (by
          have h1:f2 j=false:=Jw.out;have h2:=bT.out;rw [dP _ _ _ _ (by decide)]at h2;rw [bn,h1, <-Oo.out];exact⟨h2.1,mY.out.trans h2.2⟩)
         go_wp2_with fail
         go_roundw
         case rel=>exact⟨j+1,by omega,by go_num,uq⟩
         case measure=>simp [intOf];omega
        case true=>
         have pO:Hid (Below X2.heap.size X2 X2.drew):=ah (below_drewN (aC _ _) 1);refine wp_region_held_drew (S:=fun Y=>(∃q,aU Y p 75 12 (gu b x.ver a c q))/\ Save p X2 Y) (by kernel_rfl) ⟨⟨_,(show aU X2.drew p 75 12 (gu b x.ver a c (aZ A0 5 g s1))from qV.out)⟩,aH pO.out⟩ (fun hS=> ?_);obtain⟨Y0,hY0⟩:=aqx (X2.drew);have HB0:Hid (Below X2.heap.size X2 Y0):=ah (by rw [hY0];exact pO.out);rw [<-hY0]at hS⊢;clear hY0 pO;refine tP 0 ?_;refine tP 1 ?_;refine tP 2 (hy:=by(intro W hW;obtain⟨z0,z1⟩:=ak (oC.out W hW.2) True.intro;clear hW;go_split_ands;go_simp;(try with_reducible rfl))) ?_;refine tP 3 ?_;refine tP 4 (hy:=by(intro W hW;obtain⟨z0,z1⟩:=ak (oC.out W hW.2) True.intro;clear hW;go_split_ands;go_simp;(try with_reducible rfl))) ?_;refine tP 27 ?_;refine oQ 5 fun K5 hK5=> ?_;go_simp;refine(xw.out _).mono ?_;rintro e y5 ⟨rfl,hd⟩;have wI:=ah (HB0.out.trans (Below.mono hd HB0.out.size));refine hK5 _ _ ⟨⟨_,qV.out.under wI.out⟩,aH wI.out⟩ (fun hS5=> ?_);clear hd hK5 K5;refine tP 6 ?_;refine tP 7 ?_;refine tP 8 (hy:=by(intro W hW;obtain⟨z0,z1⟩:=ak (oC.out W hW.2) True.intro;clear hW;go_split_ands;go_simp;(try with_reducible rfl))) ?_;refine tP 9 ?_;refine tP 10 (hy:=by(intro W hW;obtain⟨z0,z1⟩:=ak (oC.out W hW.2) True.intro;clear hW;go_split_ands;go_simp;(try with_reducible rfl))) ?_;refine oQ 11 fun nN dN=> ?_;go_simp;refine(HPS.out _).mono ?_;rintro e jq ⟨rfl,hd⟩;have KD:=ah (wI.out.trans (Below.mono hd wI.out.size));refine dN _ _ ⟨⟨_,qV.out.under KD.out⟩,aH KD.out⟩ (fun dB=> ?_);clear hd dN nN;refine tP 12 ?_;refine tP 13 ?_;refine tP 14 ?_;refine tP 15 (hy:=by(intro W hW;obtain⟨z0,z1⟩:=ak (oC.out W hW.2) True.intro;clear hW;go_split_ands;go_simp;(try with_reducible rfl))) ?_;refine tP 16 ?_;refine tP 17 (hy:=by(intro W hW;obtain⟨z0,z1⟩:=ak (oC.out W hW.2) True.intro;clear hW;go_split_ands;go_simp;(try with_reducible rfl))) ?_;refine tP 18 (v:= .agg (vec 2 (bQ (pn,sn)))) (hy:=by(intro W hW;exact bP 24 _ rfl (vec 2 (bQ (pn,sn))) (by kernel_rfl) W)) ?_;refine tP 19 ?_;refine tP 20 ?_;refine tP 21 ?_;refine tP 22 ?_;refine tP 23 (v:= .agg (vec 2 (bQ b.r))) (hy:=by(intro W hW;obtain⟨q5,hq5⟩:=hW.1;exact dI 24 _ rfl ⟨p,0,none⟩ (by first|rfl|(simp;done)) _ (aW (Gz hq5) Tryz.underlying24 rfl bZ))) ?_
         refine oQ 24 fun K24 YN=> ?_;go_simp;refine(Kq.out _).mono ?_;rintro e y24 ⟨rfl,hd⟩;have abh:=ah (KD.out.trans (Below.mono hd KD.out.size));refine YN _ _ ⟨⟨_,qV.out.under abh.out⟩,aH abh.out⟩ (fun ak5=> ?_);clear hd YN K24;refine tP 25 ?_;refine tP 26 ?_;refine oQ 28 fun K28 Ov=> ?_;go_simp;refine(HM.out (!z3) 5 _ _ (qV.out.under abh.out)).mono ?_;rintro e y28 ⟨rfl,ha,hs⟩;have bT:Hid (aU y28 p 75 12 (gu b x.ver a c (aZ (!z3) 5 g (aZ A0 5 g s1)))/\ Save p X2 y28):=ah ⟨ha,(aH abh.out).trans hs⟩;refine Ov _ _ ⟨⟨_,ha⟩,bT.out.2⟩ (fun air=> ?_);clear ha hs Ov K28;refine wpAnyH_done (by kernel_rfl) ?_ _;have uq:Hid (aU y28 p 75 12 (gu b x.ver a c (aZ ((List.range (j+1)).all f2) 5 g s1))/\ Save p V y28):=ah (by
          have h1:f2 j=(!z3):=Jw.out;have h2:=bT.out;rw [dP _ _ _ _ (by decide)]at h2;rw [bn,h1, <-Oo.out];exact⟨h2.1,mY.out.trans h2.2⟩)
         go_wp2_with fail
         go_roundw
         case rel=>exact⟨j+1,by omega,by go_num,uq⟩
         case measure=>simp [intOf];omega
     · obtain rfl:n2=j:=by omega
       have hjj:¬ (n2:Int)< (n2:Int):=(by omega);obtain⟨s2,hs2⟩:=aqx (aZ (t.dG.all (vG b)) 5 g s1);rw [HF2.out.2, <-hs2]at HR;have ad3:=ah hs2;have c75:W.cell? ⟨r4,75,none⟩=some (.slice A1 n1 e1):=((HK.out.2.1.save HR.out.2 HK.out.2.2.2).cell (i:=75) (by decide)).trans (congrArg some Kz.out.1);have hn0:0<t.wins.length:=List.length_pos_iff.2 HPM.out.2;have ala:(0:Int)< (n1:Int):=(by have:=HN.out.1;omega);obtain⟨b1,q1,eb,hq1,-,hcp⟩:=(wY.out W (HK.out.2.2.1.trans HR.out.2)).1.at hn0;have hvB:=Ky.out.wins _ (ay hn0);have KF:=HPM.out.1 _ (ay hn0);have hent:oI t=(decide (t.entry% 4=0)&&(has (qo t.wins[0]) t.entry.toNat&&(xk t.wins[0].perm 0&&xk t.wins[0].perm 2))):=by
        unfold oI
        match hw:t.wins,hn0 with
        |v::l,_=>rfl
       obtain⟨v,hv⟩:=aqx (t.wins[0]);rw [<-hv]at hcp hvB KF hent;obtain⟨im,him⟩:=au hvB.1.1;obtain⟨sn,hsn⟩:=au hvB.2.2.1.1;obtain⟨E,hE⟩:=au Ky.out.entry.1;have hEb:E<18446744073709551616:=(by have:=Ky.out.entry.2;omega);have Qy:qo v=(im,sn):=(by unfold qo;rw [him,hsn];rfl);have hfs:fit (im,sn):=(by rw [<-Qy];exact⟨(dD (dZ hvB.1)).2,(dD (dZ hvB.2.2.1)).2⟩);obtain⟨P,Jy⟩:=aqx (v.perm);rw [Qy,hE, <-Jy, <-YS (by rw [Jy];exact KF)]at hent;obtain⟨z1,hz1⟩:=aqx (((E:Int)% 4==0));obtain⟨z2,hz2⟩:=aqx (has (im,sn) E);obtain⟨Y5,hY5⟩:=aqx (bits .and .i64 P 5);obtain⟨z3,hz3⟩:=aqx ((Y5==5));have h1e:decide ((E:Int)% 4=0)=z1:=(by rw [hz1];exact Bool.eq_iff_iff.2 (by simp));have h3e:rW P 5=z3:=(by rw [hz3,hY5];rfl);have Vu:Hid (oI t=(z1&&(z2&&z3))):=ah (by rw [hent,h1e,h3e,show((E:Int)).toNat=E from rfl, <-hz2]);have qy:Hid (∀W,Calls Tryz.prog 64 #[.agg (vec 2 (bQ (im,sn))),.int .u64 (E:Int)] W (jc z2 W)):=ah (by rw [hz2];exact fun W=>Tf _ hfs E hEb W);unfold jc at qy;have xA:Hid (bG v 0= .int .u64 (im:Int)/\ bG v 2= .int .u64 (sn:Int)/\ bG v 3= .int .i64 P):=ah (by rw [<-him, <-hsn,Jy];exact⟨rfl,rfl,rfl⟩);have Ox:Hid (aT y 5= .int .u64 (E:Int)):=ah (by rw [HG5.out.1,hE]);have gI:=ah hcp;have sO:bits .and .i64 P 5=Y5:=hY5.symm;have o7:(Y5==5)=z3:=hz3.symm;have wM:((E:Int)% 4==0)=z1:=hz1.symm;have hy8:((E:Int).tmod 4==0)=z1:=(by rw [hz1];rfl);subst eb;clear hcp hvB KF hent hv him hsn hE Qy hfs Jy hz1 hz2 hY5 hz3 h1e h3e hs2 hn0;go_upto_region 13 with(first
        |((with_reducible refine aqy (.load 67 _) ?_);refine bC rfl 67 _ rfl q1 rfl _ (aW gI.out Tryz.underlying67 rfl gQ) ?_)
        |((with_reducible refine aqy (.store 67 _ _) ?_);refine bD rfl 67 _ _ rfl _ rfl _ rfl (aS (aU.new W _ _ _) (bG v) gQ (mZ _ _)) ?_))
       obtain⟨r10,ad4⟩:=aqx (W.heap.size);obtain⟨X2,hX2⟩:=aqx ((W.alloc (.cells (vec 4 (bG JJ)) 67)).setRow W.heap.size (vec 4 (bG v)));have Ep:Below W.heap.size W X2:=(by rw [hX2];exact bg ((aC _ _).alloc (aj _) _) (aj _) _);have Jz:aU X2 r10 67 4 (bG v):=(by rw [hX2,ad4];exact(aU.new W _ _ _).row _);rw [<-hX2, <-ad4];have Eo:r10≠p:=(by have h1:=HR.out.1.lt;omega);have HMK:Hid (aU X2 p 75 12 (gu b x.ver a c s2)/\ Save p V X2):=ah ⟨HR.out.1.under Ep,HR.out.2.trans (aH Ep)⟩;have oC:Hid (∀Y,Below X2.heap.size X2 Y->Y.cell? ⟨r10,0,none⟩=some (.int .u64 (im:Int))/\ Y.cell? ⟨r10,2,none⟩=some (.int .u64 (sn:Int))/\ Y.cell? ⟨r10,3,none⟩=some (.int .i64 P)/\ Y.cell? ⟨r4,5,none⟩=some (.int .u64 (E:Int))):=ah fun Y hY=>by
        have h1:=Jz.under hY;have h2:=((HK.out.2.1.save HMK.out.2 HK.out.2.2.2).under hY).cell (i:=5) (by decide);rw [Ox.out]at h2;rw [<-xA.out.1, <-xA.out.2.1, <-xA.out.2.2];exact⟨h1.cell (i:=0) (by decide),h1.cell (i:=2) (by decide),h1.cell (i:=3) (by decide),h2⟩
       obtain⟨d0,d1,d2,d3⟩:=oC.out X2 (aC _ _);have hbe:0<=(E:Int)/\ (E:Int)<=18446744073709551615:=(by omega);clear hX2 ad4 Ep Jz Eo gI xA Ox hjj ala c75 HR;have HB2:Hid (Below X2.heap.size X2 X2):=ah (aC _ _);cases z1
       case false=>
        go_upto_region 14 with(go_at_call 23;refine(HM.out false 6 _ _ (HMK.out.1.under HB2.out)).mono ?_;rintro e w9 ⟨rfl,ha,hs⟩;have wR:=ah (ak ha ((HMK.out.2.trans (aH HB2.out)).trans hs));clear ha hs)
        have D9:Hid (oI t=false):=Vu;clear Vu d0 d1 d2 d3 sO o7 wM hy8 hbe HB2 oC
        (try clear e0 e1 e2 e3)
        clear qy;obtain⟨s3,hs3⟩:=aqx (aZ false 6 g s2);rw [<-hs3]at wR;have GL:Hid (aZ (oI t) 6 g (aZ (t.dG.all (vG b)) 5 g (aZ (t.wins.all (xO b)) 4 g s))=s3):=ah (by rw [D9.out, <-YR.out, <-ad3.out];exact hs3.symm);clear hs3 D9;obtain⟨D,hD⟩:=au Ky.out.Ac.1;have hDb:D<18446744073709551616:=(by have:=Ky.out.Ac.2;omega);have YT:Hid (∀Y,Below w9.heap.size w9 Y->Y.cell? ⟨r4,6,none⟩=some (.int .u64 (D:Int))):=ah fun Y hY=>by rw [<-hD, <-HG5.out.2];exact((HK.out.2.1.save wR.out.2 HK.out.2.2.2).under hY).cell (i:=6) (by decide)
        have c6:=YT.out w9 (aC _ _);have c75:w9.cell? ⟨r4,75,none⟩=some (.slice (some b1) n1 e1):=((HK.out.2.1.save wR.out.2 HK.out.2.2.2).cell (i:=75) (by decide)).trans (congrArg some Kz.out.1);obtain⟨CW,hCW⟩:=aqx (Dy b1 e1 1);have HRD:Hid (∀Y,Below w9.heap.size w9 Y->bI 4 bG Y B (some CW) (t.wins.drop 1)):=ah fun Y hY=>by
         rw [hCW];exact EM (wY.out Y (HK.out.2.2.1.trans (wR.out.2.trans (aH hY)))).1 (by have:=Kz.out.2.2;have:=HN.out.1;omega)
        obtain⟨M1,hM1⟩:=aqx (n1-1);have iG:Hid (M1=(t.wins.drop 1).length):=ah (by rw [List.length_drop, <-HN.out.1];exact hM1);have aiu:M1<=20:=(by omega);have hsl:∀W,(Instr.sliceAt 58 (.slice (some b1) n1 e1) (some (.int .i64 1)) none none).run Tryz.prog W= .ok (.slice (some CW) M1 (e1-1)) W:=fun W=>by
         rw [hCW,hM1];exact yE b1 n1 e1 1 (by have:=List.length_pos_iff.2 HPM.out.2;have:=HN.out.1;omega) W
        obtain⟨zd,hzd⟩:=aqx (((D:Int) !=0));obtain⟨z4,GK⟩:=aqx (((D:Int)% 4096==0));obtain⟨F,hF⟩:=aqx ((t.wins.drop 1).any (qp t));have La:Hid (rV t=(!zd||(F&&z4))):=ah (by
         unfold rV;rw [<-hF,hD,hzd,GK]
         congr 1
         exact Bool.eq_iff_iff.2 (by simp))
        have Ji:=ah hF;have HDE:=ah hD;have hyd:((D:Int) !=0)=zd:=hzd.symm;clear hzd hF hD hM1 hCW;cases zd
        case false=>
         have HD1:Hid (rV t=true):=La;clear La GK hsl;go_wp2_with fail
         go_end0;exact⟨rfl,by rw [GL.out,HD1.out,eP];exact wR.out.1,HK.out.2.2.1.trans wR.out.2⟩
        case true=>
         have HD1:Hid (rV t=(F&&z4)):=La;have OW:=ah GK;clear La GK;go_upto_region 17 with fail
         clear c6 c75 hsl hyd;go_loopw [11,142] (fun u v W=>∃k:Nat,k<=M1/\ v= .int .i64 k/\ u= .bool (((t.wins.drop 1).take k).any (qp t))/\ Hid (Below w9.heap.size w9 W)) (fun _ v _=>M1-(intOf v).toNat)
         case atStart=>exact⟨0,aB _,rfl,rfl,ah (aC _ _)⟩
         case round=>
          obtain⟨k,hk,rfl,rfl,HR⟩:=hrel;obtain⟨W,hW⟩:=aqx wr;subst hW;by_cases hlt3:k<M1
          · have hki:(k:Int)< (M1:Int):=by omega
            have hkl:k< (t.wins.drop 1).length:=(by have:=iG.out;omega);obtain⟨b3,q3,YU,hq3,-,hcp⟩:=(HRD.out W HR.out).at hkl;injection YU with YU
            subst YU;have hvm:=List.mem_of_mem_drop (ay hkl);have hvB:=Ky.out.wins _ hvm;have KF:=HPM.out.1 _ hvm;have hta:=aO hkl;obtain⟨v,hv⟩:=aqx ((t.wins.drop 1)[k]);rw [<-hv]at hcp hvB KF hta;obtain⟨U,hU⟩:=aqx (((t.wins.drop 1).take k).any (qp t));have Bz:Hid (((t.wins.drop 1).take (k+1)).any (qp t)=(U||qp t v)):=ah (by rw [hta,List.any_append,hU];simp);rw [<-hU];obtain⟨iw,him⟩:=au hvB.1.1;obtain⟨sw,hsn⟩:=au hvB.2.2.1.1;have Qy:qo v=(iw,sw):=(by unfold qo;rw [him,hsn];rfl);have hfs:fit (iw,sw):=(by rw [<-Qy];exact⟨(dD (dZ hvB.1)).2,(dD (dZ hvB.2.2.1)).2⟩);obtain⟨P2,Jy⟩:=aqx (v.perm);obtain⟨z6,Tj⟩:=aqx (has (iw,sw) D);obtain⟨J,hJ⟩:=aqx (D-iw);obtain⟨L,hL⟩:=aqx (sw-J);obtain⟨z7,YV⟩:=aqx (decide ((16384:Int)<=(L:Int)));obtain⟨Y1,RJ⟩:=aqx (bits .and .i64 P2 1);obtain⟨z8,YW⟩:=aqx ((Y1 !=0));have hb1:xk v.perm 0=z8:=(by rw [YW,RJ,Jy];exact(GH KF).symm);have Em:Hid (qp t v=(z6&&(z7&&z8))):=ah (by
              unfold qp;rw [Qy,HDE.out,hb1,him,hsn,Tj,YV,hL,hJ]
              congr 2
              exact Bool.eq_iff_iff.2 (by simp;omega))
            have qy:Hid (∀W,Calls Tryz.prog 64 #[.agg (vec 2 (bQ (iw,sw))),.int .u64 (D:Int)] W (jc z6 W)):=ah (by rw [Tj];exact fun W=>Tf _ hfs D hDb W);unfold jc at qy;have xA:Hid (bG v 0= .int .u64 (iw:Int)/\ bG v 2= .int .u64 (sw:Int)/\ bG v 3= .int .i64 P2):=ah (by rw [<-him, <-hsn,Jy];exact⟨rfl,rfl,rfl⟩);have gI:=ah hcp;have HWR:Hid (z6=true->IntKind.u64.wrap ((D:Int)-(iw:Int))=(J:Int)/\ IntKind.u64.wrap ((sw:Int)-(J:Int))=(L:Int)):=ah fun hz=>by
              rw [Tj]at hz;unfold has at hz;simp only [Bool.and_eq_true,decide_eq_true_eq]at hz;have h1:=hfs.1;have h2:=hfs.2;simp only at h1 h2 hz;rw [IntKind.wrap_u64,IntKind.wrap_u64];omega
            have hy1:bits .and .i64 P2 1=Y1:=RJ.symm;have hy2:(Y1 !=0)=z8:=YW.symm;have hy3:decide ((16384:Int)<=(L:Int))=z7:=YV.symm;clear hcp hvB KF hta hv hvm hU him hsn Qy hfs Jy Tj hJ hL YV RJ YW hb1 hkl;go_upto_region 19 with(first
              |((with_reducible refine aqy (.load 67 _) ?_);refine bC rfl 67 _ rfl q3 rfl _ (aW gI.out Tryz.underlying67 rfl gQ) ?_)
              |((with_reducible refine aqy (.store 67 _ _) ?_);refine bD rfl 67 _ _ rfl _ rfl _ rfl (aS (aU.new W _ _ _) (bG v) gQ (mZ _ _)) ?_))
            obtain⟨r13,GN⟩:=aqx (W.heap.size);obtain⟨X2,hX2⟩:=aqx ((W.alloc (.cells (vec 4 (bG JJ)) 67)).setRow W.heap.size (vec 4 (bG v)));have Ep:Below W.heap.size W X2:=(by rw [hX2];exact bg ((aC _ _).alloc (aj _) _) (aj _) _);have Jz:aU X2 r13 67 4 (bG v):=(by rw [hX2,GN];exact(aU.new W _ _ _).row _);rw [<-hX2, <-GN];have fU:=ah Ep;have oC:Hid (∀Y,Below X2.heap.size X2 Y->Y.cell? ⟨r13,0,none⟩=some (.int .u64 (iw:Int))/\ Y.cell? ⟨r13,2,none⟩=some (.int .u64 (sw:Int))/\ Y.cell? ⟨r13,3,none⟩=some (.int .i64 P2)/\ Y.cell? ⟨r4,6,none⟩=some (.int .u64 (D:Int))):=ah fun Y hY=>by
              have h1:=Jz.under hY;rw [<-xA.out.1, <-xA.out.2.1, <-xA.out.2.2];exact⟨h1.cell (i:=0) (by decide),h1.cell (i:=2) (by decide),h1.cell (i:=3) (by decide),YT.out Y (HR.out.trans ((fU.out.trans (hY.mono fU.out.size)).mono HR.out.size))⟩
            obtain⟨d0,d1,d2,d3⟩:=oC.out X2 (aC _ _);clear hX2 GN Ep Jz gI xA;cases z6
            case false=>
              go_wp2_with(first
               |((with_reducible refine aqy (.build _ _) ?_);refine dh rfl 24 _ rfl (vec 2 (bQ (iw,sw))) (by kernel_rfl) ?_)
               |(go_at_call 64;refine(qy.out _).mono ?_;rintro e w8 ⟨rfl,hd⟩;have HB2:=ah hd;obtain⟨e0,e1,e2,e3⟩:=oC.out w8 hd;clear hd))
              go_roundw
              case rel=>exact⟨k+1,by omega,by go_num,by rw [Bz.out,Em.out];simp,ah (HR.out.trans ((fU.out.trans (HB2.out.mono fU.out.size)).mono HR.out.size))⟩
              case measure=>simp [intOf];omega
            case true=>
              obtain⟨hw1,hw2⟩:=HWR.out rfl;cases z7
              case false=>
               have rX:¬ (16384:Int)<=(L:Int):=(by simpa using hy3);go_wp2_with(first
                |((with_reducible refine aqy (.build _ _) ?_);refine dh rfl 24 _ rfl (vec 2 (bQ (iw,sw))) (by kernel_rfl) ?_)
                |(go_at_call 64;refine(qy.out _).mono ?_;rintro e w8 ⟨rfl,hd⟩;have HB2:=ah hd;obtain⟨e0,e1,e2,e3⟩:=oC.out w8 hd;clear hd))
               go_roundw
               case rel=>exact⟨k+1,by omega,by go_num,by rw [Bz.out,Em.out];simp,ah (HR.out.trans ((fU.out.trans (HB2.out.mono fU.out.size)).mono HR.out.size))⟩
               case measure=>simp [intOf];omega
              case true=>
               have rX:(16384:Int)<=(L:Int):=(by simpa using hy3);cases z8
               case false=>
                go_wp2_with(first
                 |((with_reducible refine aqy (.build _ _) ?_);refine dh rfl 24 _ rfl (vec 2 (bQ (iw,sw))) (by kernel_rfl) ?_)
                 |(go_at_call 64;refine(qy.out _).mono ?_;rintro e w8 ⟨rfl,hd⟩;have HB2:=ah hd;obtain⟨e0,e1,e2,e3⟩:=oC.out w8 hd;clear hd))
                go_roundw
                case rel=>exact⟨k+1,by omega,by go_num,by rw [Bz.out,Em.out];simp,ah (HR.out.trans ((fU.out.trans (HB2.out.mono fU.out.size)).mono HR.out.size))⟩
                case measure=>simp [intOf];omega
               case true=>
                go_wp2_with(first
                 |((with_reducible refine aqy (.build _ _) ?_);refine dh rfl 24 _ rfl (vec 2 (bQ (iw,sw))) (by kernel_rfl) ?_)
                 |(go_at_call 64;refine(qy.out _).mono ?_;rintro e w8 ⟨rfl,hd⟩;have HB2:=ah hd;obtain⟨e0,e1,e2,e3⟩:=oC.out w8 hd;clear hd))
                go_roundw
                case rel=>exact⟨k+1,by omega,by go_num,by rw [Bz.out,Em.out];simp,ah (HR.out.trans ((fU.out.trans (HB2.out.mono fU.out.size)).mono HR.out.size))⟩
                case measure=>simp [intOf];omega
          · obtain rfl:M1=k:=by omega
            have Bg:Hid (((t.wins.drop 1).take M1).any (qp t)=F):=ah (by rw [iG.out,List.take_length];exact Ji.out.symm);rw [Bg.out];have Tn:Hid (aU W p 75 12 (gu b x.ver a c s3)/\ Save p V W):=ah ⟨wR.out.1.under HR.out,wR.out.2.trans (aH HR.out)⟩;have c6:=YT.out W HR.out;have hy1:((D:Int)% 4096==0)=z4:=OW.out.symm;have hy2:((D:Int).tmod 4096==0)=z4:=(by rw [OW.out];rfl);have hjj:¬ (M1:Int)< (M1:Int):=(by omega);cases F
            case false=>
              have HD2:Hid (rV t=false):=HD1;go_wp2_with(go_at_call 23;refine(HM.out false 7 _ _ Tn.out.1).mono ?_;rintro e w7 ⟨rfl,ha,hs⟩;have HE:=ah (ak ha (Tn.out.2.trans hs));clear ha hs)
              go_end0;exact⟨rfl,by rw [GL.out,HD2.out];exact HE.out.1,HK.out.2.2.1.trans HE.out.2⟩
            case true=>
              have HD2:Hid (rV t=z4):=HD1;go_wp2_with(go_at_call 23;refine(HM.out z4 7 _ _ Tn.out.1).mono ?_;rintro e w7 ⟨rfl,ha,hs⟩;have HE:=ah (ak ha (Tn.out.2.trans hs));clear ha hs)
              go_end0;exact⟨rfl,by rw [GL.out,HD2.out];exact HE.out.1,HK.out.2.2.1.trans HE.out.2⟩
       case true=>
        cases z2
        case false=>
         go_upto_region 14 with(first
          |((with_reducible refine aqy (.build _ _) ?_);refine kN (by kernel_rfl) (bP 24 _ rfl (vec 2 (bQ (im,sn))) (by kernel_rfl) _) ?_)
          |(go_at_call 64;refine(qy.out _).mono ?_;rintro e w8 ⟨rfl,hd⟩;have HB2:=ah hd;obtain⟨e0,e1,e2,e3⟩:=oC.out w8 hd;clear hd)
          |(go_at_call 23;refine(HM.out false 6 _ _ (HMK.out.1.under HB2.out)).mono ?_;rintro e w9 ⟨rfl,ha,hs⟩;have wR:=ah (ak ha ((HMK.out.2.trans (aH HB2.out)).trans hs));clear ha hs))
         have D9:Hid (oI t=false):=Vu;clear Vu d0 d1 d2 d3 sO o7 wM hy8 hbe HB2 oC
         (try clear e0 e1 e2 e3)
         clear qy;obtain⟨s3,hs3⟩:=aqx (aZ false 6 g s2);rw [<-hs3]at wR;have GL:Hid (aZ (oI t) 6 g (aZ (t.dG.all (vG b)) 5 g (aZ (t.wins.all (xO b)) 4 g s))=s3):=ah (by rw [D9.out, <-YR.out, <-ad3.out];exact hs3.symm);clear hs3 D9;obtain⟨D,hD⟩:=au Ky.out.Ac.1;have hDb:D<18446744073709551616:=(by have:=Ky.out.Ac.2;omega);have YT:Hid (∀Y,Below w9.heap.size w9 Y->Y.cell? ⟨r4,6,none⟩=some (.int .u64 (D:Int))):=ah fun Y hY=>by rw [<-hD, <-HG5.out.2];exact((HK.out.2.1.save wR.out.2 HK.out.2.2.2).under hY).cell (i:=6) (by decide)
         have c6:=YT.out w9 (aC _ _);have c75:w9.cell? ⟨r4,75,none⟩=some (.slice (some b1) n1 e1):=((HK.out.2.1.save wR.out.2 HK.out.2.2.2).cell (i:=75) (by decide)).trans (congrArg some Kz.out.1);obtain⟨CW,hCW⟩:=aqx (Dy b1 e1 1);have HRD:Hid (∀Y,Below w9.heap.size w9 Y->bI 4 bG Y B (some CW) (t.wins.drop 1)):=ah fun Y hY=>by
          rw [hCW];exact EM (wY.out Y (HK.out.2.2.1.trans (wR.out.2.trans (aH hY)))).1 (by have:=Kz.out.2.2;have:=HN.out.1;omega)
         obtain⟨M1,hM1⟩:=aqx (n1-1);have iG:Hid (M1=(t.wins.drop 1).length):=ah (by rw [List.length_drop, <-HN.out.1];exact hM1);have aiu:M1<=20:=(by omega);have hsl:∀W,(Instr.sliceAt 58 (.slice (some b1) n1 e1) (some (.int .i64 1)) none none).run Tryz.prog W= .ok (.slice (some CW) M1 (e1-1)) W:=fun W=>by
          rw [hCW,hM1];exact yE b1 n1 e1 1 (by have:=List.length_pos_iff.2 HPM.out.2;have:=HN.out.1;omega) W
         obtain⟨zd,hzd⟩:=aqx (((D:Int) !=0));obtain⟨z4,GK⟩:=aqx (((D:Int)% 4096==0));obtain⟨F,hF⟩:=aqx ((t.wins.drop 1).any (qp t));have La:Hid (rV t=(!zd||(F&&z4))):=ah (by
          unfold rV;rw [<-hF,hD,hzd,GK]
          congr 1
          exact Bool.eq_iff_iff.2 (by simp))
         have Ji:=ah hF;have HDE:=ah hD;have hyd:((D:Int) !=0)=zd:=hzd.symm;clear hzd hF hD hM1 hCW;cases zd
         case false=>
          have HD1:Hid (rV t=true):=La;clear La GK hsl;go_wp2_with fail
          go_end0;exact⟨rfl,by rw [GL.out,HD1.out,eP];exact wR.out.1,HK.out.2.2.1.trans wR.out.2⟩
         case true=>
          have HD1:Hid (rV t=(F&&z4)):=La;have OW:=ah GK;clear La GK;go_upto_region 17 with fail
          clear c6 c75 hsl hyd;go_loopw [11,142] (fun u v W=>∃k:Nat,k<=M1/\ v= .int .i64 k/\ u= .bool (((t.wins.drop 1).take k).any (qp t))/\ Hid (Below w9.heap.size w9 W)) (fun _ v _=>M1-(intOf v).toNat)
          case atStart=>exact⟨0,aB _,rfl,rfl,ah (aC _ _)⟩
          case round=>
            obtain⟨k,hk,rfl,rfl,HR⟩:=hrel;obtain⟨W,hW⟩:=aqx wr;subst hW;by_cases hlt3:k<M1
            · have hki:(k:Int)< (M1:Int):=by omega
              have hkl:k< (t.wins.drop 1).length:=(by have:=iG.out;omega);obtain⟨b3,q3,YU,hq3,-,hcp⟩:=(HRD.out W HR.out).at hkl;injection YU with YU
              subst YU;have hvm:=List.mem_of_mem_drop (ay hkl);have hvB:=Ky.out.wins _ hvm;have KF:=HPM.out.1 _ hvm;have hta:=aO hkl;obtain⟨v,hv⟩:=aqx ((t.wins.drop 1)[k]);rw [<-hv]at hcp hvB KF hta;obtain⟨U,hU⟩:=aqx (((t.wins.drop 1).take k).any (qp t));have Bz:Hid (((t.wins.drop 1).take (k+1)).any (qp t)=(U||qp t v)):=ah (by rw [hta,List.any_append,hU];simp);rw [<-hU];obtain⟨iw,him⟩:=au hvB.1.1;obtain⟨sw,hsn⟩:=au hvB.2.2.1.1;have Qy:qo v=(iw,sw):=(by unfold qo;rw [him,hsn];rfl);have hfs:fit (iw,sw):=(by rw [<-Qy];exact⟨(dD (dZ hvB.1)).2,(dD (dZ hvB.2.2.1)).2⟩);obtain⟨P2,Jy⟩:=aqx (v.perm);obtain⟨z6,Tj⟩:=aqx (has (iw,sw) D);obtain⟨J,hJ⟩:=aqx (D-iw);obtain⟨L,hL⟩:=aqx (sw-J);obtain⟨z7,YV⟩:=aqx (decide ((16384:Int)<=(L:Int)));obtain⟨Y1,RJ⟩:=aqx (bits .and .i64 P2 1);obtain⟨z8,YW⟩:=aqx ((Y1 !=0));have hb1:xk v.perm 0=z8:=(by rw [YW,RJ,Jy];exact(GH KF).symm);have Em:Hid (qp t v=(z6&&(z7&&z8))):=ah (by
               unfold qp;rw [Qy,HDE.out,hb1,him,hsn,Tj,YV,hL,hJ]
               congr 2
               exact Bool.eq_iff_iff.2 (by simp;omega))
              have qy:Hid (∀W,Calls Tryz.prog 64 #[.agg (vec 2 (bQ (iw,sw))),.int .u64 (D:Int)] W (jc z6 W)):=ah (by rw [Tj];exact fun W=>Tf _ hfs D hDb W);unfold jc at qy;have xA:Hid (bG v 0= .int .u64 (iw:Int)/\ bG v 2= .int .u64 (sw:Int)/\ bG v 3= .int .i64 P2):=ah (by rw [<-him, <-hsn,Jy];exact⟨rfl,rfl,rfl⟩);have gI:=ah hcp;have HWR:Hid (z6=true->IntKind.u64.wrap ((D:Int)-(iw:Int))=(J:Int)/\ IntKind.u64.wrap ((sw:Int)-(J:Int))=(L:Int)):=ah fun hz=>by
               rw [Tj]at hz;unfold has at hz;simp only [Bool.and_eq_true,decide_eq_true_eq]at hz;have h1:=hfs.1;have h2:=hfs.2;simp only at h1 h2 hz;rw [IntKind.wrap_u64,IntKind.wrap_u64];omega
              have hy1:bits .and .i64 P2 1=Y1:=RJ.symm;have hy2:(Y1 !=0)=z8:=YW.symm;have hy3:decide ((16384:Int)<=(L:Int))=z7:=YV.symm;clear hcp hvB KF hta hv hvm hU him hsn Qy hfs Jy Tj hJ hL YV RJ YW hb1 hkl;go_upto_region 19 with(first
               |((with_reducible refine aqy (.load 67 _) ?_);refine bC rfl 67 _ rfl q3 rfl _ (aW gI.out Tryz.underlying67 rfl gQ) ?_)
               |((with_reducible refine aqy (.store 67 _ _) ?_);refine bD rfl 67 _ _ rfl _ rfl _ rfl (aS (aU.new W _ _ _) (bG v) gQ (mZ _ _)) ?_))
              obtain⟨r13,GN⟩:=aqx (W.heap.size);obtain⟨X2,hX2⟩:=aqx ((W.alloc (.cells (vec 4 (bG JJ)) 67)).setRow W.heap.size (vec 4 (bG v)));have Ep:Below W.heap.size W X2:=(by rw [hX2];exact bg ((aC _ _).alloc (aj _) _) (aj _) _);have Jz:aU X2 r13 67 4 (bG v):=(by rw [hX2,GN];exact(aU.new W _ _ _).row _);rw [<-hX2, <-GN];have fU:=ah Ep;have oC:Hid (∀Y,Below X2.heap.size X2 Y->Y.cell? ⟨r13,0,none⟩=some (.int .u64 (iw:Int))/\ Y.cell? ⟨r13,2,none⟩=some (.int .u64 (sw:Int))/\ Y.cell? ⟨r13,3,none⟩=some (.int .i64 P2)/\ Y.cell? ⟨r4,6,none⟩=some (.int .u64 (D:Int))):=ah fun Y hY=>by
               have h1:=Jz.under hY;rw [<-xA.out.1, <-xA.out.2.1, <-xA.out.2.2];exact⟨h1.cell (i:=0) (by decide),h1.cell (i:=2) (by decide),h1.cell (i:=3) (by decide),YT.out Y (HR.out.trans ((fU.out.trans (hY.mono fU.out.size)).mono HR.out.size))⟩
              obtain⟨d0,d1,d2,d3⟩:=oC.out X2 (aC _ _);clear hX2 GN Ep Jz gI xA;cases z6
              case false=>
               go_wp2_with(first
                |((with_reducible refine aqy (.build _ _) ?_);refine dh rfl 24 _ rfl (vec 2 (bQ (iw,sw))) (by kernel_rfl) ?_)
                |(go_at_call 64;refine(qy.out _).mono ?_;rintro e w8 ⟨rfl,hd⟩;have HB2:=ah hd;obtain⟨e0,e1,e2,e3⟩:=oC.out w8 hd;clear hd))
               go_roundw
               case rel=>exact⟨k+1,by omega,by go_num,by rw [Bz.out,Em.out];simp,ah (HR.out.trans ((fU.out.trans (HB2.out.mono fU.out.size)).mono HR.out.size))⟩
               case measure=>simp [intOf];omega
              case true=>
               obtain⟨hw1,hw2⟩:=HWR.out rfl;cases z7
               case false=>
                have rX:¬ (16384:Int)<=(L:Int):=(by simpa using hy3);go_wp2_with(first
                 |((with_reducible refine aqy (.build _ _) ?_);refine dh rfl 24 _ rfl (vec 2 (bQ (iw,sw))) (by kernel_rfl) ?_)
                 |(go_at_call 64;refine(qy.out _).mono ?_;rintro e w8 ⟨rfl,hd⟩;have HB2:=ah hd;obtain⟨e0,e1,e2,e3⟩:=oC.out w8 hd;clear hd))
                go_roundw
                case rel=>exact⟨k+1,by omega,by go_num,by rw [Bz.out,Em.out];simp,ah (HR.out.trans ((fU.out.trans (HB2.out.mono fU.out.size)).mono HR.out.size))⟩
                case measure=>simp [intOf];omega
               case true=>
                have rX:(16384:Int)<=(L:Int):=(by simpa using hy3);cases z8
                case false=>
                 go_wp2_with(first
                  |((with_reducible refine aqy (.build _ _) ?_);refine dh rfl 24 _ rfl (vec 2 (bQ (iw,sw))) (by kernel_rfl) ?_)
                  |(go_at_call 64;refine(qy.out _).mono ?_;rintro e w8 ⟨rfl,hd⟩;have HB2:=ah hd;obtain⟨e0,e1,e2,e3⟩:=oC.out w8 hd;clear hd))
                 go_roundw
                 case rel=>exact⟨k+1,by omega,by go_num,by rw [Bz.out,Em.out];simp,ah (HR.out.trans ((fU.out.trans (HB2.out.mono fU.out.size)).mono HR.out.size))⟩
                 case measure=>simp [intOf];omega
                case true=>
                 go_wp2_with(first
                  |((with_reducible refine aqy (.build _ _) ?_);refine dh rfl 24 _ rfl (vec 2 (bQ (iw,sw))) (by kernel_rfl) ?_)
                  |(go_at_call 64;refine(qy.out _).mono ?_;rintro e w8 ⟨rfl,hd⟩;have HB2:=ah hd;obtain⟨e0,e1,e2,e3⟩:=oC.out w8 hd;clear hd))
                 go_roundw
                 case rel=>exact⟨k+1,by omega,by go_num,by rw [Bz.out,Em.out];simp,ah (HR.out.trans ((fU.out.trans (HB2.out.mono fU.out.size)).mono HR.out.size))⟩
                 case measure=>simp [intOf];omega
            · obtain rfl:M1=k:=by omega
              have Bg:Hid (((t.wins.drop 1).take M1).any (qp t)=F):=ah (by rw [iG.out,List.take_length];exact Ji.out.symm);rw [Bg.out];have Tn:Hid (aU W p 75 12 (gu b x.ver a c s3)/\ Save p V W):=ah ⟨wR.out.1.under HR.out,wR.out.2.trans (aH HR.out)⟩;have c6:=YT.out W HR.out;have hy1:((D:Int)% 4096==0)=z4:=OW.out.symm;have hy2:((D:Int).tmod 4096==0)=z4:=(by rw [OW.out];rfl);have hjj:¬ (M1:Int)< (M1:Int):=(by omega);cases F
              case false=>
               have HD2:Hid (rV t=false):=HD1;go_wp2_with(go_at_call 23;refine(HM.out false 7 _ _ Tn.out.1).mono ?_;rintro e w7 ⟨rfl,ha,hs⟩;have HE:=ah (ak ha (Tn.out.2.trans hs));clear ha hs)
               go_end0;exact⟨rfl,by rw [GL.out,HD2.out];exact HE.out.1,HK.out.2.2.1.trans HE.out.2⟩
              case true=>
               have HD2:Hid (rV t=z4):=HD1;go_wp2_with(go_at_call 23;refine(HM.out z4 7 _ _ Tn.out.1).mono ?_;rintro e w7 ⟨rfl,ha,hs⟩;have HE:=ah (ak ha (Tn.out.2.trans hs));clear ha hs)
               go_end0;exact⟨rfl,by rw [GL.out,HD2.out];exact HE.out.1,HK.out.2.2.1.trans HE.out.2⟩
        case true=>
         go_upto_region 14 with(first
          |((with_reducible refine aqy (.build _ _) ?_);refine kN (by kernel_rfl) (bP 24 _ rfl (vec 2 (bQ (im,sn))) (by kernel_rfl) _) ?_)
          |(go_at_call 64;refine(qy.out _).mono ?_;rintro e w8 ⟨rfl,hd⟩;have HB2:=ah hd;obtain⟨e0,e1,e2,e3⟩:=oC.out w8 hd;clear hd)
          |(go_at_call 23;refine(HM.out z3 6 _ _ (HMK.out.1.under HB2.out)).mono ?_;rintro e w9 ⟨rfl,ha,hs⟩;have wR:=ah (ak ha ((HMK.out.2.trans (aH HB2.out)).trans hs));clear ha hs))
         have D9:Hid (oI t=z3):=Vu;clear Vu d0 d1 d2 d3 sO o7 wM hy8 hbe HB2 oC
         (try clear e0 e1 e2 e3)
         clear qy;obtain⟨s3,hs3⟩:=aqx (aZ z3 6 g s2);rw [<-hs3]at wR;have GL:Hid (aZ (oI t) 6 g (aZ (t.dG.all (vG b)) 5 g (aZ (t.wins.all (xO b)) 4 g s))=s3):=ah (by rw [D9.out, <-YR.out, <-ad3.out];exact hs3.symm);clear hs3 D9;obtain⟨D,hD⟩:=au Ky.out.Ac.1;have hDb:D<18446744073709551616:=(by have:=Ky.out.Ac.2;omega);have YT:Hid (∀Y,Below w9.heap.size w9 Y->Y.cell? ⟨r4,6,none⟩=some (.int .u64 (D:Int))):=ah fun Y hY=>by rw [<-hD, <-HG5.out.2];exact((HK.out.2.1.save wR.out.2 HK.out.2.2.2).under hY).cell (i:=6) (by decide)
         have c6:=YT.out w9 (aC _ _);have c75:w9.cell? ⟨r4,75,none⟩=some (.slice (some b1) n1 e1):=((HK.out.2.1.save wR.out.2 HK.out.2.2.2).cell (i:=75) (by decide)).trans (congrArg some Kz.out.1);obtain⟨CW,hCW⟩:=aqx (Dy b1 e1 1);have HRD:Hid (∀Y,Below w9.heap.size w9 Y->bI 4 bG Y B (some CW) (t.wins.drop 1)):=ah fun Y hY=>by
          rw [hCW];exact EM (wY.out Y (HK.out.2.2.1.trans (wR.out.2.trans (aH hY)))).1 (by have:=Kz.out.2.2;have:=HN.out.1;omega)
         obtain⟨M1,hM1⟩:=aqx (n1-1);have iG:Hid (M1=(t.wins.drop 1).length):=ah (by rw [List.length_drop, <-HN.out.1];exact hM1);have aiu:M1<=20:=(by omega);have hsl:∀W,(Instr.sliceAt 58 (.slice (some b1) n1 e1) (some (.int .i64 1)) none none).run Tryz.prog W= .ok (.slice (some CW) M1 (e1-1)) W:=fun W=>by
          rw [hCW,hM1];exact yE b1 n1 e1 1 (by have:=List.length_pos_iff.2 HPM.out.2;have:=HN.out.1;omega) W
         obtain⟨zd,hzd⟩:=aqx (((D:Int) !=0));obtain⟨z4,GK⟩:=aqx (((D:Int)% 4096==0));obtain⟨F,hF⟩:=aqx ((t.wins.drop 1).any (qp t));have La:Hid (rV t=(!zd||(F&&z4))):=ah (by
          unfold rV;rw [<-hF,hD,hzd,GK]
          congr 1
          exact Bool.eq_iff_iff.2 (by simp))
         have Ji:=ah hF;have HDE:=ah hD;have hyd:((D:Int) !=0)=zd:=hzd.symm;clear hzd hF hD hM1 hCW;cases zd
         case false=>
          have HD1:Hid (rV t=true):=La;clear La GK hsl;go_wp2_with fail
          go_end0;exact⟨rfl,by rw [GL.out,HD1.out,eP];exact wR.out.1,HK.out.2.2.1.trans wR.out.2⟩
         case true=>
          have HD1:Hid (rV t=(F&&z4)):=La;have OW:=ah GK;clear La GK;go_upto_region 17 with fail
          clear c6 c75 hsl hyd;go_loopw [11,142] (fun u v W=>∃k:Nat,k<=M1/\ v= .int .i64 k/\ u= .bool (((t.wins.drop 1).take k).any (qp t))/\ Hid (Below w9.heap.size w9 W)) (fun _ v _=>M1-(intOf v).toNat)
          case atStart=>exact⟨0,aB _,rfl,rfl,ah (aC _ _)⟩
          case round=>
            obtain⟨k,hk,rfl,rfl,HR⟩:=hrel;obtain⟨W,hW⟩:=aqx wr;subst hW;by_cases hlt3:k<M1
            · have hki:(k:Int)< (M1:Int):=by omega
              have hkl:k< (t.wins.drop 1).length:=(by have:=iG.out;omega);obtain⟨b3,q3,YU,hq3,-,hcp⟩:=(HRD.out W HR.out).at hkl;injection YU with YU
              subst YU;have hvm:=List.mem_of_mem_drop (ay hkl);have hvB:=Ky.out.wins _ hvm;have KF:=HPM.out.1 _ hvm;have hta:=aO hkl;obtain⟨v,hv⟩:=aqx ((t.wins.drop 1)[k]);rw [<-hv]at hcp hvB KF hta;obtain⟨U,hU⟩:=aqx (((t.wins.drop 1).take k).any (qp t));have Bz:Hid (((t.wins.drop 1).take (k+1)).any (qp t)=(U||qp t v)):=ah (by rw [hta,List.any_append,hU];simp);rw [<-hU];obtain⟨iw,him⟩:=au hvB.1.1;obtain⟨sw,hsn⟩:=au hvB.2.2.1.1;have Qy:qo v=(iw,sw):=(by unfold qo;rw [him,hsn];rfl);have hfs:fit (iw,sw):=(by rw [<-Qy];exact⟨(dD (dZ hvB.1)).2,(dD (dZ hvB.2.2.1)).2⟩);obtain⟨P2,Jy⟩:=aqx (v.perm);obtain⟨z6,Tj⟩:=aqx (has (iw,sw) D);obtain⟨J,hJ⟩:=aqx (D-iw);obtain⟨L,hL⟩:=aqx (sw-J);obtain⟨z7,YV⟩:=aqx (decide ((16384:Int)<=(L:Int)));obtain⟨Y1,RJ⟩:=aqx (bits .and .i64 P2 1);obtain⟨z8,YW⟩:=aqx ((Y1 !=0));have hb1:xk v.perm 0=z8:=(by rw [YW,RJ,Jy];exact(GH KF).symm);have Em:Hid (qp t v=(z6&&(z7&&z8))):=ah (by
               unfold qp;rw [Qy,HDE.out,hb1,him,hsn,Tj,YV,hL,hJ]
               congr 2
               exact Bool.eq_iff_iff.2 (by simp;omega))
              have qy:Hid (∀W,Calls Tryz.prog 64 #[.agg (vec 2 (bQ (iw,sw))),.int .u64 (D:Int)] W (jc z6 W)):=ah (by rw [Tj];exact fun W=>Tf _ hfs D hDb W);unfold jc at qy;have xA:Hid (bG v 0= .int .u64 (iw:Int)/\ bG v 2= .int .u64 (sw:Int)/\ bG v 3= .int .i64 P2):=ah (by rw [<-him, <-hsn,Jy];exact⟨rfl,rfl,rfl⟩);have gI:=ah hcp;have HWR:Hid (z6=true->IntKind.u64.wrap ((D:Int)-(iw:Int))=(J:Int)/\ IntKind.u64.wrap ((sw:Int)-(J:Int))=(L:Int)):=ah fun hz=>by
               rw [Tj]at hz;unfold has at hz;simp only [Bool.and_eq_true,decide_eq_true_eq]at hz;have h1:=hfs.1;have h2:=hfs.2;simp only at h1 h2 hz;rw [IntKind.wrap_u64,IntKind.wrap_u64];omega
              have hy1:bits .and .i64 P2 1=Y1:=RJ.symm;have hy2:(Y1 !=0)=z8:=YW.symm;have hy3:decide ((16384:Int)<=(L:Int))=z7:=YV.symm;clear hcp hvB KF hta hv hvm hU him hsn Qy hfs Jy Tj hJ hL YV RJ YW hb1 hkl;go_upto_region 19 with(first
               |((with_reducible refine aqy (.load 67 _) ?_);refine bC rfl 67 _ rfl q3 rfl _ (aW gI.out Tryz.underlying67 rfl gQ) ?_)
               |((with_reducible refine aqy (.store 67 _ _) ?_);refine bD rfl 67 _ _ rfl _ rfl _ rfl (aS (aU.new W _ _ _) (bG v) gQ (mZ _ _)) ?_))
              obtain⟨r13,GN⟩:=aqx (W.heap.size);obtain⟨X2,hX2⟩:=aqx ((W.alloc (.cells (vec 4 (bG JJ)) 67)).setRow W.heap.size (vec 4 (bG v)));have Ep:Below W.heap.size W X2:=(by rw [hX2];exact bg ((aC _ _).alloc (aj _) _) (aj _) _);have Jz:aU X2 r13 67 4 (bG v):=(by rw [hX2,GN];exact(aU.new W _ _ _).row _);rw [<-hX2, <-GN];have fU:=ah Ep;have oC:Hid (∀Y,Below X2.heap.size X2 Y->Y.cell? ⟨r13,0,none⟩=some (.int .u64 (iw:Int))/\ Y.cell? ⟨r13,2,none⟩=some (.int .u64 (sw:Int))/\ Y.cell? ⟨r13,3,none⟩=some (.int .i64 P2)/\ Y.cell? ⟨r4,6,none⟩=some (.int .u64 (D:Int))):=ah fun Y hY=>by
               have h1:=Jz.under hY;rw [<-xA.out.1, <-xA.out.2.1, <-xA.out.2.2];exact⟨h1.cell (i:=0) (by decide),h1.cell (i:=2) (by decide),h1.cell (i:=3) (by decide),YT.out Y (HR.out.trans ((fU.out.trans (hY.mono fU.out.size)).mono HR.out.size))⟩
              obtain⟨d0,d1,d2,d3⟩:=oC.out X2 (aC _ _);clear hX2 GN Ep Jz gI xA;cases z6
              case false=>
               go_wp2_with(first
                |((with_reducible refine aqy (.build _ _) ?_);refine dh rfl 24 _ rfl (vec 2 (bQ (iw,sw))) (by kernel_rfl) ?_)
                |(go_at_call 64;refine(qy.out _).mono ?_;rintro e w8 ⟨rfl,hd⟩;have HB2:=ah hd;obtain⟨e0,e1,e2,e3⟩:=oC.out w8 hd;clear hd))
               go_roundw
               case rel=>exact⟨k+1,by omega,by go_num,by rw [Bz.out,Em.out];simp,ah (HR.out.trans ((fU.out.trans (HB2.out.mono fU.out.size)).mono HR.out.size))⟩
               case measure=>simp [intOf];omega
              case true=>
               obtain⟨hw1,hw2⟩:=HWR.out rfl;cases z7
               case false=>
                have rX:¬ (16384:Int)<=(L:Int):=(by simpa using hy3);go_wp2_with(first
                 |((with_reducible refine aqy (.build _ _) ?_);refine dh rfl 24 _ rfl (vec 2 (bQ (iw,sw))) (by kernel_rfl) ?_)
                 |(go_at_call 64;refine(qy.out _).mono ?_;rintro e w8 ⟨rfl,hd⟩;have HB2:=ah hd;obtain⟨e0,e1,e2,e3⟩:=oC.out w8 hd;clear hd))
                go_roundw
                case rel=>exact⟨k+1,by omega,by go_num,by rw [Bz.out,Em.out];simp,ah (HR.out.trans ((fU.out.trans (HB2.out.mono fU.out.size)).mono HR.out.size))⟩
                case measure=>simp [intOf];omega
               case true=>
                have rX:(16384:Int)<=(L:Int):=(by simpa using hy3);cases z8
                case false=>
                 go_wp2_with(first
                  |((with_reducible refine aqy (.build _ _) ?_);refine dh rfl 24 _ rfl (vec 2 (bQ (iw,sw))) (by kernel_rfl) ?_)
                  |(go_at_call 64;refine(qy.out _).mono ?_;rintro e w8 ⟨rfl,hd⟩;have HB2:=ah hd;obtain⟨e0,e1,e2,e3⟩:=oC.out w8 hd;clear hd))
                 go_roundw
                 case rel=>exact⟨k+1,by omega,by go_num,by rw [Bz.out,Em.out];simp,ah (HR.out.trans ((fU.out.trans (HB2.out.mono fU.out.size)).mono HR.out.size))⟩
                 case measure=>simp [intOf];omega
                case true=>
                 go_wp2_with(first
                  |((with_reducible refine aqy (.build _ _) ?_);refine dh rfl 24 _ rfl (vec 2 (bQ (iw,sw))) (by kernel_rfl) ?_)
                  |(go_at_call 64;refine(qy.out _).mono ?_;rintro e w8 ⟨rfl,hd⟩;have HB2:=ah hd;obtain⟨e0,e1,e2,e3⟩:=oC.out w8 hd;clear hd))
                 go_roundw
                 case rel=>exact⟨k+1,by omega,by go_num,by rw [Bz.out,Em.out];simp,ah (HR.out.trans ((fU.out.trans (HB2.out.mono fU.out.size)).mono HR.out.size))⟩
                 case measure=>simp [intOf];omega
            · obtain rfl:M1=k:=by omega
              have Bg:Hid (((t.wins.drop 1).take M1).any (qp t)=F):=ah (by rw [iG.out,List.take_length];exact Ji.out.symm);rw [Bg.out];have Tn:Hid (aU W p 75 12 (gu b x.ver a c s3)/\ Save p V W):=ah ⟨wR.out.1.under HR.out,wR.out.2.trans (aH HR.out)⟩;have c6:=YT.out W HR.out;have hy1:((D:Int)% 4096==0)=z4:=OW.out.symm;have hy2:((D:Int).tmod 4096==0)=z4:=(by rw [OW.out];rfl);have hjj:¬ (M1:Int)< (M1:Int):=(by omega);cases F
              case false=>
               have HD2:Hid (rV t=false):=HD1;go_wp2_with(go_at_call 23;refine(HM.out false 7 _ _ Tn.out.1).mono ?_;rintro e w7 ⟨rfl,ha,hs⟩;have HE:=ah (ak ha (Tn.out.2.trans hs));clear ha hs)
               go_end0;exact⟨rfl,by rw [GL.out,HD2.out];exact HE.out.1,HK.out.2.2.1.trans HE.out.2⟩
              case true=>
               have HD2:Hid (rV t=z4):=HD1;go_wp2_with(go_at_call 23;refine(HM.out z4 7 _ _ Tn.out.1).mono ?_;rintro e w7 ⟨rfl,ha,hs⟩;have HE:=ah (ak ha (Tn.out.2.trans hs));clear ha hs)
               go_end0;exact⟨rfl,by rw [GL.out,HD2.out];exact HE.out.1,HK.out.2.2.1.trans HE.out.2⟩
end Go.Proofs.YtkaipknkjocfiaaGreat
