import Derived.Test.YtkaipknkjocfiaaGreatZd18
set_option maxRecDepth 100000
set_option maxHeartbeats 64000000
namespace Go.Proofs.YtkaipknkjocfiaaGreat
open Go.RowKit Go.Maps
attribute [local go_sem ↓ high] jo sW nK
def Fc(p r3 r5 n:Nat)(cf:Nat->Value)(y:Ch)(Y:World):Prop:=Y.cell? ⟨p,7,none⟩=some (.int .i64 (n:Int))/\ aU Y r3 31 3 cf/\ aU Y r5 47 8 (kJ y)
section
variable {p r3 r5 n : Nat} {cf : Nat -> Value} {y : Ch} {Y Y' : World}
theorem Fc.under(h:Fc p r3 r5 n cf y Y)(hb:Below Y.heap.size Y Y'):Fc p r3 r5 n cf y Y':=⟨(hb.cell (p:=⟨p,7,none⟩) (lt_of_cell h.1)).trans h.1,h.2.1.under hb,h.2.2.under hb⟩
theorem Fc.Mc{v:Value}{bs:Nat}{l:List Sp}(h:Fc p r3 r5 n cf y Y)(ho:nM Y bs v l)(hb:mg p v Y Y')(h3:r3≠p)(h5:r5≠p)(h7:Y'.cell? ⟨p,7,none⟩=some (.int .i64 (n:Int))):Fc p r3 r5 n cf y Y':=
 ⟨h7,(hb.block _ h.2.1.lt h3 (own_ne ho h.2.1 (by decide))).trans h.2.1,(hb.block _ h.2.2.lt h5 (own_ne ho h.2.2 (by decide))).trans h.2.2⟩
end
theorem aa2{b:Bd}{x:Cf}{k:Nat}(hk:k<x.dH.length)(s:Nat × Nat):kR b x k s=aZ (decide (x.dH[k].a.bK≠x.dH[k].b.bK)&&(rQ x x.dH[k] x.dH[k].a&&rQ x x.dH[k] x.dH[k].b)) 12 k (aZ (tZ b x k x.dH[k]) 11 k s):=by
 unfold kR;rw [aF hk]
theorem qZ{b:Bd}{x:Cf}(i:Nat)(s:Nat × Nat)(h:s.1≠0):kR b x i s=s:=by
 unfold kR;cases x.dH[i]? with
 |none=>rfl
 |some t=>simp only;rw [dM (by rw [dM h];exact h),dM h]
def Du(b:Bd)(x:Cf):Nat × Nat:=upto x.dH.length (kR b x) (0,0)
theorem aa3{x:Cf}{y:Ch}(h:kM y=false):NZ x.gs.length y=(decide (y.a.bK≠y.b.bK)&&(rQ x y y.a&&rQ x y y.b)):=by
 unfold kM kL inB at h;simp only [Bool.or_eq_false_iff,Bool.not_eq_false',decide_eq_true_eq]at h;unfold NZ;rw [Yu h.1.1.1 h.1.2,Yu h.2.1.1 h.2.2]
theorem Yv{x:Cf}(h:lT x=0):∀y∈x.dH,kM y=false:=fun y hy=>by
 have hc:vC x=0:=by
  unfold lT at h
  split at h
  · assumption
  · exact h
 have:=(Sm hc).2.2.2;rw [<-Bool.not_eq_true];intro hh;rw [List.any_eq_true.2 ⟨y,hy,hh⟩]at this;cases this
theorem Ql(x:Cf)(a c:Value)(b:Bd)(B p m1 m2 m3 m4 base N0:Nat)(wh0:Int)(L1 L2 L3 L4:List Lit)(w:World)(hx:uw w B x a c)(hb:Aj x)(hf:qU x=true)(hr:fit b.r)(hl:fit b.l)(her:lT x=0)(hgs:lH b x=(0,0))(hs:mM B w p m1 m2 m3 m4 base b wh0 N0 L1 L2 L3 L4 (pK x x.gs.length)):
  Calls Tryz.prog 21 #[.pointer (some ⟨p,0,none⟩),ji x a c] w (Md B (Du b x) (fun w'=>∃wh mem,mM B w' p m1 m2 m3 m4 base b wh N0 L1 L2 L3 L4 mem) w):=by
 have hBw:B<=w.heap.size:=(by have:=hs.ord;omega);have hbw:base<=w.heap.size:=(by have:=hs.ord;omega);have adO:∀i (hi:i<x.gs.length),Bh b x i x.gs[i]:=(fun i hi=>(vH (f:=iZ b x) (P:=fun g=>∀ (hg:g<x.gs.length),Bh b x g x.gs[g]) (fun i s hs=>Gn hs) x.gs.length (0,0) (by show(lH b x).1=0;rw [hgs])).2 i hi hi);have hap:uT (pK x x.gs.length):=(Dl _ fun i hi=>(adO i hi).owned);have hdv:∀t∈x.gs,t.dG.all (vG b)=true:=fun t ht=>by
  obtain⟨i,hi,rfl⟩:=List.getElem_of_mem ht;exact(adO i hi).dG
 obtain⟨hx1,-⟩:=hx;obtain⟨⟨A,d,ys,ha,hm,hg,-⟩,⟨A2,d2,hc,hch,-⟩⟩:=hx1;obtain⟨NG,xu⟩:=aqx (x.gs.length);obtain⟨NC,JM⟩:=aqx (x.dH.length);have aaY:NG<=20:=(by rw [xu];exact(iI hf).1);have aor:NC<=40:=(by rw [JM];exact(iI hf).2.1);obtain⟨r3,hr3⟩:=aqx (w.heap.size);obtain⟨V,hV⟩:=aqx (w.alloc (.cells (vec 3 (eX x.ver a c)) 31));have bV:Below w.heap.size w V:=(by rw [hV];exact Below.aY _ _);have v3:aU V r3 31 3 (eX x.ver a c):=(by rw [hV,hr3];exact aU.new _ _ _ _);have Vg:=hs.under bV;have c2:V.cell? ⟨r3,2,none⟩=some (.slice A2 NC d2):=(by rw [v3.cell (i:=2) (by decide),JM];exact congrArg some hc);have HST:Hid ((∃wh,mM B V p m1 m2 m3 m4 base b wh N0 L1 L2 L3 L4 (uV x 0))/\ Below B w V/\ upto 0 (kR b x) (0,0)=(0,0)/\ aU V r3 31 3 (eX x.ver a c)):=ah ⟨⟨wh0,by have e:uV x 0=pK x x.gs.length:=(by unfold uV;simp);rw [e];exact Vg⟩,bV.mono hBw,rfl,v3⟩;have HRW:Hid (∀Y,Below B w Y->bI 8 kJ Y B A2 x.dH):=(ah fun Y hY=>hch.below hY);have oK:=ah hb;have Ji:=ah hf;have Bg:=ah (ak hr hl);have HER:=ah (Yv her);have HAP:=ah hap;have HDV:=ah hdv;have HA1:Hid (∀Y,aU Y r3 31 3 (eX x.ver a c)->Y.cell? ⟨r3,1,none⟩=some (.slice A NG d)):=ah fun Y hY=>by rw [hY.cell (i:=1) (by decide),xu];exact congrArg some ha
 have J8:Hid (B<=m1/\ m1<m2/\ m2<m3/\ m3<m4/\ m4<p/\ p<base/\ base<=r3/\ r3=w.heap.size):=ah (by have:=hs.ord;omega);have HV:=ah hV;have HR:=ah hr3;have yH:=ah (ak xu JM);unfold ji;clear ha hm hg hc hch adO hap hdv hgs hV hr3 bV v3 Vg hb hf hr hl her hs hBw hbw xu JM;go_enter Tryz.func21,Tryz.ntmps21;go_upto_region 1 with fail
 rw [<-HV.out, <-HR.out];clear HV HR;go_upto_region 2 with fail
 clear c2;go_loopw [9] (fun v W=>∃n:Nat,n<=NC/\ v= .int .i64 n/\ Hid ((∃wh,mM B W p m1 m2 m3 m4 base b wh N0 L1 L2 L3 L4 (uV x n))/\ Below B w W/\ upto n (kR b x) (0,0)=(0,0)/\ aU W r3 31 3 (eX x.ver a c))) (fun v _=>NC-(intOf v).toNat)
 case atStart=>exact⟨0,aB _,rfl,HST⟩
 case round=>
  clear HST;obtain⟨n,hn,rfl,HR⟩:=hrel;obtain⟨W,hW⟩:=aqx wr;subst hW;by_cases hlt:n<NC
  · have hnN:(n:Int)< (NC:Int):=by omega
    have hnx:n<x.dH.length:=(by have:=yH.out;omega);obtain⟨⟨wh,hK⟩,hBel,hU,hk3⟩:=HR.out;obtain⟨a0,q,rfl,hq,-,hcp⟩:=(HRW.out W hBel).at hnx;obtain⟨y,hy⟩:=aqx (x.dH[n]);rw [<-hy]at hcp;have hym:y∈x.dH:=(by rw [hy];exact ay _);have hyb:=oK.out.dH y hym;obtain⟨pn,hpn⟩:=au hyb.1.1;obtain⟨sn,hsn⟩:=au hyb.2.1.1;have hsp:J4 y=(pn,sn):=(by unfold J4;rw [hpn,hsn];rfl);have hfs:fit (pn,sn):=(by rw [<-hsp];exact⟨(dD (dZ hyb.1)).2,(dD (dZ hyb.2.1)).2⟩);obtain⟨c11,adP⟩:=aqx (tZ b x n x.dH[n]);obtain⟨c12,hc12⟩:=aqx ((decide (x.dH[n].a.bK≠x.dH[n].b.bK)&&(rQ x x.dH[n] x.dH[n].a&&rQ x x.dH[n] x.dH[n].b)));have hge:kR b x n (0,0)=aZ c12 12 n (aZ c11 11 n (0,0)):=(by rw [aa2 hnx,adP,hc12]);have ah2:Hid (c11=false->Du b x=(11,n)):=(ah fun h=>vk qZ hU (by rw [hge,h,iT,dS (r1:=11) (by decide)]) (by decide) hnx);have ah3:Hid (c11=true->c12=false->Du b x=(12,n)):=(ah fun h1 h=>vk qZ hU (by rw [hge,h1,h,eP,iT]) (by decide) hnx);have je:Hid (c11=true->c12=true->upto (n+1) (kR b x) (0,0)=(0,0)):=ah fun h1 h2=>by rw [upto_succ,hU,hge,h1,h2];rfl
    have ah4:uT (uV x n):=zL (b:=b) HAP.out n (by omega) fun i hi hlt=>by
     have hz:=(vH (f:=kR b x) (P:=fun k=>∀ (hk:k<x.dH.length),Qm b x k x.dH[k]) (fun i s hs=>Vk hs) n (0,0) (by rw [hU])).2;have hall:∀j,j<=n->∀i (hi:i<x.dH.length),i<j->Jf b x i (J4 x.dH[i])=true:=fun j=>by
       induction j with
       |zero=>intro _ i _ h;omega
       |succ j ih=>
         intro hj i hi hij;rw [SH HDV.out i hi (zL (b:=b) HAP.out i (by omega) fun k hk hki=>ih (by omega) k hk (by omega))];exact(hz i (by omega) hi).chan
     exact hall n (aj _) i hi hlt
    obtain⟨r5,EJ⟩:=aqx (W.heap.size);obtain⟨X,hX⟩:=aqx ((W.alloc (.cells (vec 8 (kJ Uf)) 47)).setRow W.heap.size (vec 8 (kJ y)));have bX:Below W.heap.size W X:=(by rw [hX];exact bg ((aC _ _).alloc (aj _) _) (aj _) _);have aX:aU X r5 47 8 (kJ y):=(by rw [hX,EJ];exact(aU.new W _ _ _).row _);have kX:=hK.under bX;obtain⟨X2,hX2⟩:=aqx (X.setCell ⟨p,7,none⟩ (.int .i64 (n:Int)));have Lm:mM B X2 p m1 m2 m3 m4 base b (n:Int) N0 L1 L2 L3 L4 (uV x n):=(by rw [hX2];exact kX.AO _);have hord:=hK.ord;have hor:=J8.out;have FX:Fc p r3 r5 n (eX x.ver a c) y X2:=⟨Lm.cell.1,by rw [hX2];exact(hk3.under bX).far (p:=⟨p,7,none⟩) (by show r3≠p;omega) _,by rw [hX2];exact aX.far (p:=⟨p,7,none⟩) (by show r5≠p;omega) _⟩;have bX2:Below B w X2:=by
     rw [hX2];exact(hBel.trans (bX.mono (by omega))).setCell (p:=⟨p,7,none⟩) (by show B<=p;omega) _
    have f7:=kX.cell.2.2.2.2.2;have e7:=kX.cell.1;have y0:X2.cell? ⟨r5,0,none⟩=some (.int .u64 (pn:Int)):=(by rw [<-hpn];exact FX.2.2.cell (i:=0) (by decide));have y1:X2.cell? ⟨r5,1,none⟩=some (.int .u64 (sn:Int)):=(by rw [<-hsn];exact FX.2.2.cell (i:=1) (by decide));have ah5:Hid (Calls Tryz.prog 54 #[.pointer (some ⟨p,0,none⟩),.agg (vec 2 (bQ (pn,sn)))] X2 fun e w'=>∃r,e= .returned (.bool r)/\ r=c11/\ (r=true->mM B w' p m1 m2 m3 m4 base b (n:Int) N0 L1 L2 L3 L4 (uV x (n+1)))/\ (w'.cell? ⟨p,7,none⟩=some (.int .i64 (n:Int))/\ (r=true->Fc p r3 r5 n (eX x.ver a c) y w')/\ Below B X2 w')):=ah (by
     obtain⟨Am,cm,hbox,hown⟩:=Lm.box;have hko:=Lm.ord;have hml:(uV x n).length<=840:=by
       unfold uV;rw [List.length_append,List.length_map,List.length_take];have:=Gm Ji.out x.gs.length (aj _);have:=yH.out;omega
     refine(L6 Jc p b (n:Int) m1 m2 m3 m4 base cm Am (uV x n) (pn,sn) hfs Bg.out.1 Bg.out.2 X2 hbox hown (by omega) (by omega) (by omega) (fun s hs=> ?_)).mono fun e w' hh=> ?_
     · rcases List.mem_append.1 hs with h|h
       · unfold uV at h
         rcases List.mem_append.1 h with h|h
         · exact NU oK.out _ s h
         · obtain⟨u,hu,rfl⟩:=List.mem_map.1 h
           have hub:=oK.out.dH u (List.mem_of_mem_take hu);exact⟨(dD (dZ hub.1)).2,(dD (dZ hub.2.1)).2⟩
       · rw [List.mem_singleton.1 h];exact hfs
     · obtain⟨r,h1,h2,h3,h4,h5⟩:=hh
       have hms:uV x n++ [(pn,sn)]=uV x (n+1):=(by rw [Je x n hnx, <-hy,hsp]);rw [hms]at h3 h2;have hkk:r=true->mM B w' p m1 m2 m3 m4 base b (n:Int) N0 L1 L2 L3 L4 (uV x (n+1)):=(fun e=>Lm.own hown h4 (h3 e));have h7:w'.cell? ⟨p,7,none⟩=some (.int .i64 (n:Int)):=h5;refine⟨r,h1, ?_,hkk,h7,fun e=>FX.Mc hown h4 (by omega) (by omega) h7,h4.J6 hown (by omega) (by omega) (by omega)⟩;rw [h2,adP, <-SH HDV.out n hnx ah4];unfold Jf;rw [<-hms, <-hy,hsp])
    have ah6:Hid (∀Y,Calls Tryz.prog 55 #[.agg (vec 8 (kJ y)),.int .i64 (NG:Int)] Y (jc c12 Y)):=ah fun Y=>by
     have:=N7 NG y hyb Y;rw [yH.out.1,aa3 (HER.out y hym),hy, <-hc12, <-yH.out.1, <-hy]at this;exact this
    unfold jc at ah6;have Dq:=ah FX;have fU:=ah bX2;have HX:=ah hX;have MV:=ah hX2;have Yk:=ah EJ;have gI:=ah hcp;have HBs:Hid (B<=w.heap.size):=ah (by omega);have hbX:=bX;clear hK hBel hU hk3 hcp hy hym hyb hpn hsn hsp hfs adP hc12 hge ah4 EJ hX bX aX kX hX2 Lm hord hor FX bX2 HR hnx hbX;go_upto_region 4 with(first
     |((with_reducible refine aqy (.load 47 _) ?_);refine bC rfl 47 _ rfl q rfl _ (aW gI.out Tryz.underlying47 rfl nJ) ?_)
     |((with_reducible refine aqy (.store 47 _ _) ?_);refine bD rfl 47 _ _ rfl _ rfl _ rfl (aS (aU.new W _ _ _) (kJ y) nJ (vV _ _)) ?_))
    rw [<-HX.out, <-Yk.out];clear HX gI Yk;go_upto_region 5 with fail
    rw [<-MV.out];clear MV f7 e7;go_upto_region 6 with(first
     |((with_reducible refine aqy (.build _ _) ?_);refine dh rfl 24 _ rfl (vec 2 (bQ (pn,sn))) (by kernel_rfl) ?_)
     |(go_at_call 54;refine ah5.out.mono ?_;rintro e w1 ⟨r,rfl,hre,hk,h7,hfx,hbb⟩;have Ei:=ah hre;have HKR:=ah (ak hk hfx);have H7:=ah h7;have fU:=ah (fU.out.trans hbb);clear hre hk h7 hfx hbb)
     |(go_at_call 36;refine(jJ r 11 n p _ H7.out).mono ?_;rintro e y3 ⟨⟨hz,rfl⟩|⟨hz,rfl⟩,rfl⟩;rotate_left;(exact⟨rfl,.no (ah2.out (by rw [<-Ei.out];exact hz)) (by decide) fU.out⟩);have HZ1:=ah hz;clear hz))
    have Vl:=ah (HKR.out.1 HZ1.out);have HF1:=ah (HKR.out.2 HZ1.out);have Eh:Hid (c11=true):=ah (by rw [<-Ei.out];exact HZ1.out);have d1:=HA1.out _ HF1.out.2.1;clear ah5 HKR HZ1 Ei y0 y1;go_upto_region 7 with(first
     |((with_reducible refine aqy (.load 47 _) ?_);refine bM rfl 47 _ rfl r5 rfl _ (aQ HF1.out.2.2 Tryz.underlying47 rfl nJ) ?_)
     |(go_at_call 55;refine(ah6.out _).mono ?_;rintro e w2 ⟨rfl,hd⟩;have Yw:=ah (Vl.out.under hd);have HF2:=ah (HF1.out.under hd);have HB2:=ah (fU.out.trans (hd.mono (aA HBs.out fU.out.size)));clear hd)
     |(go_at_call 36;refine(jJ c12 12 n p _ HF2.out.1).mono ?_;rintro e y3 ⟨⟨hz,rfl⟩|⟨hz,rfl⟩,rfl⟩;rotate_left;(exact⟨rfl,.no (ah3.out Eh.out hz) (by decide) HB2.out⟩);have HZ2:=ah hz;clear hz))
    clear d1;go_wp2_with fail
    go_roundw
    case rel=>exact⟨n+1,by omega,by go_num,ah ⟨⟨_,Yw.out⟩,HB2.out,je.out Eh.out HZ2.out,HF2.out.2.1⟩⟩
    case measure=>simp [intOf];omega
  · obtain rfl:n=NC:=by omega
    go_wp2_with fail
    go_end0;have hR:=HR.out;obtain⟨⟨wh,hk⟩,hB,hU,-⟩:=hR;rw [yH.out.2]at hU;exact .yes hU ⟨wh,_,hk⟩ hB
theorem Vm{x:Cf}{g:Int}{n:Nat}(h:oh x g= .error n):n≠0:=by
 unfold oh at h
 split at h
 · injection h with h;omega
 · split at h
   · cases h
   · injection h with h;omega
def Qn(x:Cf):Nat × Nat:=upto x.gs.length (fun g=>aZ (qh x g) 13 g) (0,0)
theorem Qo(x:Cf)(a c:Value)(b:Bd)(B p m1 m2 m3 m4 base N0:Nat)(wh0:Int)(L1 L2 L3 L4:List Lit)(mem:List Sp)(w:World)(hx:uw w B x a c)(hb:Aj x)(hf:qU x=true)(hs:mM B w p m1 m2 m3 m4 base b wh0 N0 L1 L2 L3 L4 mem):
  Calls Tryz.prog 22 #[.pointer (some ⟨p,0,none⟩),ji x a c] w (Md B (Qn x) (fun _=>True) w):=by
 have hBw:B<=w.heap.size:=(by have:=hs.ord;omega);obtain⟨hx1,-⟩:=hx;have hx2:=hx1;obtain⟨⟨A,d,ys,ha,hm,hg,-⟩,-⟩:=hx2;obtain⟨NG,xu⟩:=aqx (x.gs.length);have aaY:NG<=20:=(by rw [xu];exact(iI hf).1);obtain⟨r3,hr3⟩:=aqx (w.heap.size);obtain⟨V,hV⟩:=aqx (w.alloc (.cells (vec 3 (eX x.ver a c)) 31));have bV:Below w.heap.size w V:=(by rw [hV];exact Below.aY _ _);have v3:aU V r3 31 3 (eX x.ver a c):=(by rw [hV,hr3];exact aU.new _ _ _ _);have Vg:=hs.under bV;have c1:V.cell? ⟨r3,1,none⟩=some (.slice A NG d):=(by rw [v3.cell (i:=1) (by decide),xu];exact congrArg some ha);have HST:Hid ((∃wh,mM B V p m1 m2 m3 m4 base b wh N0 L1 L2 L3 L4 mem)/\ Below B w V/\ upto 0 (fun g=>aZ (qh x g) 13 g) (0,0)=(0,0)/\ aU V r3 31 3 (eX x.ver a c)):=ah ⟨⟨wh0,Vg⟩,bV.mono hBw,rfl,v3⟩;have akO:Hid (∀ (n:Nat) Y,Below B w Y->Calls Tryz.prog 56 #[.agg (vec 3 (eX x.ver a c)),.int .i64 (n:Int)] Y fun e w'=>∃v E,e= .returned (.tuple #[v,.int .i64 E])/\ (E==0)=qh x n/\ Below Y.heap.size Y w'):=ah fun n Y hY=>by
  refine(Yr x a c (n:Int) Y ((hx1.below hY).wide (by have:=hY.size;omega)) hb hf).mono fun e w' hh=> ?_;unfold qh;cases hmp:oh x (n:Int)with
  |ok l=>
    rw [hmp]at hh;obtain⟨v,h1,-,h2⟩:=hh;exact⟨v,0,h1,rfl,h2⟩
  |error m=>
    rw [hmp]at hh;obtain⟨A',c',h1,h2⟩:=hh;exact⟨_,_,h1,by simpa using Vm hmp,h2⟩
 have J8:Hid (B<=m1/\ m1<m2/\ m2<m3/\ m3<m4/\ m4<p/\ p<r3/\ B<=w.heap.size):=ah (by have:=hs.ord;omega);have HV:=ah hV;have HR:=ah hr3;have yH:=ah xu;unfold ji;clear ha hm hg hx1 hV hr3 bV v3 Vg hb hf hs hBw xu;go_enter Tryz.func22,Tryz.ntmps22;go_upto_region 1 with fail
 rw [<-HV.out, <-HR.out];clear HV HR;go_upto_region 2 with fail
 clear c1;go_loopw [10] (fun v W=>∃n:Nat,n<=NG/\ v= .int .i64 n/\ Hid ((∃wh,mM B W p m1 m2 m3 m4 base b wh N0 L1 L2 L3 L4 mem)/\ Below B w W/\ upto n (fun g=>aZ (qh x g) 13 g) (0,0)=(0,0)/\ aU W r3 31 3 (eX x.ver a c))) (fun v _=>NG-(intOf v).toNat)
 case atStart=>exact⟨0,aB _,rfl,HST⟩
 case round=>
  clear HST;obtain⟨n,hn,rfl,HR⟩:=hrel;obtain⟨W,hW⟩:=aqx wr;subst hW;by_cases hlt:n<NG
  · have hnN:(n:Int)< (NG:Int):=by omega
    have hnx:n<x.gs.length:=(by have:=yH.out;omega);obtain⟨⟨wh,hK⟩,hBel,hU,hk3⟩:=HR.out;obtain⟨c13,hc13⟩:=aqx (qh x n);have qR:Hid (c13=false->Qn x=(13,n)):=(ah fun h=>vk (f:=fun g=>aZ (qh x g) 13 g) (fun i s h=>dM h) hU (show aZ (qh x n) 13 n (0,0)=_ by rw [<-hc13,h,iT]) (by decide) hnx);have je:Hid (c13=true->upto (n+1) (fun g=>aZ (qh x g) 13 g) (0,0)=(0,0)):=ah fun h=>by rw [upto_succ,hU, <-hc13,h];rfl
    obtain⟨X2,hX2⟩:=aqx (W.setCell ⟨p,7,none⟩ (.int .i64 (n:Int)));have Lm:mM B X2 p m1 m2 m3 m4 base b (n:Int) N0 L1 L2 L3 L4 mem:=(by rw [hX2];exact hK.AO _);have hor:=J8.out;have a3:aU X2 r3 31 3 (eX x.ver a c):=(by rw [hX2];exact hk3.far (p:=⟨p,7,none⟩) (by show r3≠p;omega) _);have bX2:Below B w X2:=(by rw [hX2];exact hBel.setCell (p:=⟨p,7,none⟩) (by show B<=p;omega) _);have f7:=hK.cell.2.2.2.2.2;have e7:=hK.cell.1;have HM:=ah (akO.out n X2 bX2);rw [<-hc13]at HM;have pq:=ah Lm;have wz:=ah a3;have fU:=ah bX2;have MV:=ah hX2;clear hK hBel hU hk3 hc13 hX2 Lm hor a3 bX2 HR hnx;go_upto_region 5 with fail
    rw [<-MV.out];clear MV f7 e7;go_upto_region 6 with(first
     |((with_reducible refine aqy (.load 31 _) ?_);refine bM rfl 31 _ rfl r3 rfl _ (aQ wz.out Tryz.underlying31 rfl dR) ?_)
     |(go_at_call 56;refine HM.out.mono ?_;rintro e w1 ⟨v,E,rfl,hE,hd⟩;have HE:=ah hE;have Vl:=ah (pq.out.under hd);have HA1:=ah (wz.out.under hd);have HB1:=ah (fU.out.trans (hd.mono (aA J8.out.2.2.2.2.2.2 fU.out.size)));clear hd hE))
    have kE:=HE.out;go_upto_region 7 with(go_at_call 36;refine(jJ c13 13 n p _ Vl.out.cell.1).mono ?_;rintro e y3 ⟨⟨hz,rfl⟩|⟨hz,rfl⟩,rfl⟩;rotate_left;(exact⟨rfl,.no (qR.out hz) (by decide) HB1.out⟩);have HZ:=ah hz;clear hz)
    clear kE;go_wp2_with fail
    go_roundw
    case rel=>exact⟨n+1,by omega,by go_num,ah ⟨⟨_,Vl.out⟩,HB1.out,je.out HZ.out,HA1.out⟩⟩
    case measure=>simp [intOf];omega
  · obtain rfl:n=NG:=by omega
    go_wp2_with fail
    go_end0;have hR:=HR.out;obtain⟨-,hB,hU,-⟩:=hR;rw [yH.out]at hU;exact .yes hU trivial hB
open Go.RowKit Go.Maps
attribute [local go_sem ↓ high] jo oZ nK
def nmK(t:Gs):Lit:= .string (strOf t.name).data.toList
def Lp(x:Cf)(n:Nat):List Lit:=(x.gs.take n).map nmK
theorem aa5(x:Cf)(n:Nat)(hn:n<x.gs.length):nameB x n= !tJ (Lp x n) (nmK x.gs[n]):=by
 have e:Lp x n=((x.gs.take n).map Gs.name).map fun s=>Lit.string (strOf s).data.toList:=(by unfold Lp nmK;rw [List.map_map];rfl);rw [e];unfold nmK;rw [aa6];unfold nameB;rw [Bool.eq_iff_iff,List.all_eq_true];simp only [List.mem_range,Bool.not_eq_true']
 constructor
 · intro h
   rw [<-Bool.not_eq_true,List.contains_iff_mem];intro hm;obtain⟨t,ht,hte⟩:=List.mem_map.1 hm;obtain⟨k,hk,rfl⟩:=List.mem_take_iff_getElem.1 ht;have hk1:k<n:=(by omega);have:=h k hk1;rw [N8,List.getD_eq_getElem?_getD,List.getD_eq_getElem?_getD,aF hn,aF (show k<x.gs.length by omega),Option.getD_some,Option.getD_some,hte]at this;simp at this
 · intro h k hk
   rw [N8,List.getD_eq_getElem?_getD,List.getD_eq_getElem?_getD,aF hn,aF (show k<x.gs.length by omega),Option.getD_some,Option.getD_some];rw [<-Bool.not_eq_true,beq_iff_eq];intro e;rw [<-Bool.not_eq_true,List.contains_iff_mem]at h;refine h (List.mem_map.2 ⟨x.gs[k],List.mem_take_iff_getElem.2 ⟨k,by omega,rfl⟩,e.symm⟩)
theorem Yx(x:Cf)(n:Nat)(hn:n<x.gs.length):Lp x (n+1)=Lp x n++ [nmK x.gs[n]]:=by
 unfold Lp;rw [aO hn,List.map_append]
 rfl
def mX(b:Bd)(x:Cf):Nat × Nat:=upto x.gs.length (fun i=>aZ (nameB x i) 2 i) (mO b x)
theorem adQ{x:Cf}(hb:Aj x)(hf:qU x=true):NmK x:=fun g hg=>⟨(hb.gs g hg).key,aA (jZ ((iI hf).2.2 g hg)).2.2.2.2 (by decide)⟩
theorem Qp(x:Cf)(a c:Value)(b:Bd)(B p m1 m2 m3 m4 base:Nat)(w:World)(hx:uw w B x a c)(hb:Aj x)(hf:qU x=true)(hr:fit b.r)(hl:fit b.l)(hs:mM B w p m1 m2 m3 m4 base b 0 0 [] [] [] [] []):
  Calls Tryz.prog 19 #[.pointer (some ⟨p,0,none⟩),ji x a c] w (Md B (mX b x) (fun w'=>∃wh,mM B w' p m1 m2 m3 m4 base b wh x.gs.length (Lp x x.gs.length) [] [] [] []) w):=by
 have hBw:B<=w.heap.size:=(by have:=hs.ord;omega);obtain⟨hx1,A,d,ys,ha,hm,hg,-⟩:=hx;have hlen:ys.length=x.gs.length:=(by rw [<-hm,List.length_map]);obtain⟨N,hN⟩:=aqx (x.gs.length);have aaY:N<=20:=(by rw [hN];exact(iI hf).1);obtain⟨F,hF⟩:∃F:Int,F=((Gu b.r.1 b.r.2 b.l.1 b.l.2 b.cO b.strs b.gX:Nat):Int):=⟨_,rfl⟩;obtain⟨E,hE⟩:∃E:Int,E=((lT x:Nat):Int):=⟨_,rfl⟩;obtain⟨z1,hz1⟩:=aqx (sH b);obtain⟨z2,hz2⟩:=aqx (decide (lT x=0));have kF:(F==0)=z1:=(by rw [hz1,hF];unfold sH;exact Bool.eq_iff_iff.2 (by simp));have kE:(E==0)=z2:=(by rw [hz2,hE];exact Bool.eq_iff_iff.2 (by simp));have Qq:Hid (∀W,Calls Tryz.prog 37 #[.agg (vec 7 (kH b))] W fun e w'=>e= .returned (.int .i64 F)/\ Below W.heap.size W w'):=ah fun W=>by rw [hF];exact aa7 b.r.1 b.r.2 b.l.1 b.l.2 b.cO b.strs b.gX hr hl W
 have Bc:Hid (∀W,Below w.heap.size w W->Calls Tryz.prog 38 #[.agg (vec 3 (eX x.ver a c))] W fun e w'=>∃v,e= .returned (.tuple #[v,.int .i64 E])/\ Below W.heap.size W w'):=ah fun W hW=>by
  refine(XO x a c W ((hx1.below (hW.mono hBw)).wide (aA hBw hW.size)) hb (adQ hb hf)).mono fun e w' hh=> ?_;obtain⟨h1,h2⟩:=hh;by_cases he:lT x=0
  · rw [if_pos he]at h1
    obtain⟨v,rfl,-⟩:=h1;exact⟨v,by rw [hE,he];rfl,h2⟩
  · rw [if_neg he]at h1
    exact⟨_,by rw [h1,hE],h2⟩
 have ah8:Hid (z1=false->mX b x=(1,0)):=ah fun h=>by
  have e:mO b x=(1,0):=(by unfold mO;rw [<-hz1,h,iT,dM (by decide)]);unfold mX;rw [e];exact iL (fun i s h=>dM h) (by decide) _
 have ah9:Hid (z1=true->z2=false->mX b x=(2,0)):=ah fun h h2=>by
  have e:mO b x=(2,0):=(by unfold mO;rw [<-hz1,h,eP, <-hz2,h2,iT]);unfold mX;rw [e];exact iL (fun i s h=>dM h) (by decide) _
 have HHD:Hid (z1=true->z2=true->mO b x=(0,0)):=ah fun h h2=>by unfold mO;rw [<-hz1,h,eP, <-hz2,h2,eP]
 have adM:Hid (∀n,mO b x=(0,0)->n<N->upto n (fun i=>aZ (nameB x i) 2 i) (0,0)=(0,0)->nameB x n=false->mX b x=(2,n)):=ah fun n hh hn h0 h1=>by
  unfold mX;rw [hh, <-hN];exact vk (f:=fun i=>aZ (nameB x i) 2 i) (fun i s h=>dM h) h0 (show aZ (nameB x n) 2 n (0,0)=_ by rw [h1];exact iT) (by decide) hn
 obtain⟨r3,hr3⟩:=aqx (w.heap.size);obtain⟨V,hV⟩:=aqx (w.alloc (.cells (vec 3 (eX x.ver a c)) 31));have bV:Below w.heap.size w V:=(by rw [hV];exact Below.aY _ _);have wz:Hid (∀Y,Below V.heap.size V Y->aU Y r3 31 3 (eX x.ver a c)):=ah fun Y hY=>by have:aU V r3 31 3 (eX x.ver a c):=(by rw [hV,hr3];exact aU.new _ _ _ _);exact this.under hY
 have Vg:=hs.under bV;have RV:=ah Vg;have HC7:Hid (∀Y,Below V.heap.size V Y->Y.cell? ⟨p,7,none⟩=some (.int .i64 ((0:Nat):Int))):=(ah fun Y hY=>(Vg.under hY).cell.1);have HKB:Hid (∀i,i<7->V.cell? ((⟨p,0,none⟩:Addr).add i)=some (kH b i)):=ah fun i hi=>by rw [lF,Nat.zero_add];exact Vg.kb.2 i hi
 have HA1:Hid (∀Y,Below V.heap.size V Y->Y.cell? ⟨r3,1,none⟩=some (.slice A N d)):=ah fun Y hY=>by
  have h:=(wz.out Y hY).cell (i:=1) (by decide);rw [h,hN];exact congrArg some ha
 have HBV:=ah bV;have Jl:=ah hBw;have HRW:Hid (∀Y,Below B w Y->Qi Y B A ys):=(ah fun Y hY=>hg.below hY);have Lh:Hid (∀k (hk:k<ys.length) (hk2:k<x.gs.length),ys[k].g=x.gs[k]):=(ah fun k hk hk2=>by simp [<-hm]);have HLEN:=ah (ak hlen hN);have Lc:Hid (∀t∈x.gs,(strOf t.name).size<=maxLen):=ah fun t ht=>by rw [oP];have:=(jZ ((iI hf).2.2 t ht)).2.2.2.2;unfold maxLen;omega
 have HV:=ah hV;have HR3:=ah hr3;have HN:=ah hN;unfold ji;rw [<-hN];clear hx1 ha hm hg hlen hF hE hz1 hz2 hV bV Vg hr3 hb hf hr hl hs hBw hN;go_enter Tryz.func19,Tryz.ntmps19;go_upto_region 1 with fail
 rw [<-HV.out, <-HR3.out];clear HV HR3;go_upto_region 2 with(first
  |((with_reducible refine aqy (.load 26 _) ?_);refine bC rfl 26 _ rfl ⟨p,0,none⟩ rfl _ (aW HKB.out Tryz.underlying26 rfl iU) ?_)
  |(go_at_call 37;refine(Qq.out _).mono ?_;rintro e w1 ⟨rfl,hd⟩;have H1:=ah hd;clear hd)
  |(go_at_call 36;refine(jJ z1 1 0 p _ (HC7.out _ H1.out)).mono ?_;rintro e y ⟨⟨hz,rfl⟩|⟨hz,rfl⟩,rfl⟩;rotate_left;(exact⟨rfl,.no (ah8.out hz) (by decide) ((HBV.out.trans (H1.out.mono HBV.out.size)).mono Jl.out)⟩);have HZ1:=ah hz;clear hz))
 clear Qq HKB kF;go_upto_region 3 with(first
  |((with_reducible refine aqy (.load 31 _) ?_);refine bM rfl 31 _ rfl r3 rfl _ (aQ (wz.out _ H1.out) Tryz.underlying31 rfl dR) ?_)
  |(go_at_call 38;refine(Bc.out _ (HBV.out.trans (H1.out.mono HBV.out.size))).mono ?_;rintro e w2 ⟨v,rfl,hd⟩;have H2:=ah (H1.out.trans (hd.mono H1.out.size));clear hd))
 go_upto_region 4 with(go_at_call 36;refine(jJ z2 2 0 p _ (HC7.out _ H2.out)).mono ?_;rintro e y ⟨⟨hz,rfl⟩|⟨hz,rfl⟩,rfl⟩;rotate_left;(exact⟨rfl,.no (ah9.out HZ1.out hz) (by decide) ((HBV.out.trans (H2.out.mono HBV.out.size)).mono Jl.out)⟩);have HZ2:=ah hz;clear hz)
 have c1:=HA1.out _ H2.out;have ach:=ah (HHD.out HZ1.out HZ2.out);have HST:Hid ((∃wh,mM B w2 p m1 m2 m3 m4 base b wh 0 (Lp x 0) [] [] [] [])/\ Below B w w2/\ upto 0 (fun i=>aZ (nameB x i) 2 i) (0,0)=(0,0)):=ah ⟨⟨0,RV.out.under H2.out⟩,(HBV.out.trans (H2.out.mono HBV.out.size)).mono Jl.out,rfl⟩;clear kE ah8 ah9 HHD HZ1 HZ2 Bc HC7 wz HA1 RV HBV;go_upto_region 5 with fail
 clear c1;go_loopw [28] (fun v W=>∃n:Nat,n<=N/\ v= .int .i64 n/\ Hid ((∃wh,mM B W p m1 m2 m3 m4 base b wh n (Lp x n) [] [] [] [])/\ Below B w W/\ upto n (fun i=>aZ (nameB x i) 2 i) (0,0)=(0,0))) (fun v _=>N-(intOf v).toNat)
 case atStart=>exact⟨0,aB _,rfl,HST⟩
 case round=>
  clear HST;obtain⟨n,hn,rfl,HR⟩:=hrel;obtain⟨W,hW⟩:=aqx wr;subst hW;by_cases hlt:n<N
  · have hnN:(n:Int)< (N:Int):=by omega
    have hny:n<ys.length:=(by have:=HLEN.out;omega);have hnx:n<x.gs.length:=(by have:=HLEN.out;omega);obtain⟨⟨wh,hK⟩,hBB,hU⟩:=HR.out;obtain⟨a0,q,rfl,hq,-,hcp⟩:=(HRW.out W hBB).row.at hny;obtain⟨y,hy⟩:=aqx (ys[n]);rw [<-hy]at hcp;have hone:GV1 y:=(by rw [hy];exact((HRW.out W hBB).all _ (ay _)).one);obtain⟨S,hS⟩:=aqx (strOf y.g.name);have hyg:y.g=x.gs[n]:=(by rw [hy];exact Lh.out n hny hnx);have hSz:S.size<=maxLen:=(by rw [hS,hyg];exact Lc.out _ (ay _));obtain⟨zn,hzn⟩:=aqx (nameB x n);have hzi:zn= !tJ (Lp x n) (.string S.data.toList):=(by rw [hzn,aa5 x n hnx,hS,hyg];rfl);have hsucc:Lp x (n+1)=Lp x n++ [.string S.data.toList]:=(by rw [Yx x n hnx,hS,hyg];rfl);obtain⟨r7,FB⟩:=aqx (W.heap.size);obtain⟨X,hX⟩:=aqx ((W.alloc (.cells (vec 79 (aT vw)) 63)).setRow W.heap.size (vec 79 (aT y)));have bX:Below W.heap.size W X:=(by rw [hX];exact bg ((aC _ _).alloc (aj _) _) (aj _) _);have aX:aU X r7 63 79 (aT y):=(by rw [hX,FB];exact(aU.new W _ _ _).row _);have kX:=hK.under bX;obtain⟨X2,hX2⟩:=aqx (X.setCell ⟨p,7,none⟩ (.int .i64 (n:Int)));have Lm:mM B X2 p m1 m2 m3 m4 base b (n:Int) n (Lp x n) [] [] [] []:=(by rw [hX2];exact kX.AO _);have hord:=hK.ord;have hpr:p≠r7:=(by omega);have aX2:aU X2 r7 63 79 (aT y):=(by rw [hX2];exact aX.far (p:=⟨p,7,none⟩) hpr.symm _);have bX2:Below B w X2:=by
      rw [hX2];exact(hBB.trans (bX.mono (by omega))).setCell (p:=⟨p,7,none⟩) (by show B<=p;omega) _
    have f7:=kX.cell.2.2.2.2.2;have e7:=kX.cell.1;have DX:Hid (∀Y,Save m1 X2 Y->Y.cell? ⟨p,8,none⟩=some (.map (some m1))/\ Y.cell? ⟨r7,0,none⟩=some (.string S)/\ Y.cell? ⟨p,7,none⟩=some (.int .i64 (n:Int))):=ah fun Y hY=>by
      have hpl:p<X2.heap.size:=Lm.kb.1;refine⟨(hY.cell (p:=⟨p,8,none⟩) hpl (by show p≠m1;omega)).trans Lm.cell.2.1, ?_,(hY.cell (p:=⟨p,7,none⟩) hpl (by show p≠m1;omega)).trans Lm.cell.1⟩;rw [hS];exact(aX2.save hY (by omega)).cell (i:=0) (by decide)
    have IW:Hid (∀Y,gJ 9 Y m1 n (Lp x n)->Calls Tryz.prog 39 #[.map (some m1),.string S] Y fun e w'=>e= .returned (.bool zn)/\ gJ 9 w' m1 (n+1) (Lp x (n+1))/\ Save m1 Y w'):=ah fun Y hY=>by rw [hzi,hsucc];exact Yy m1 n (Lp x n) S hSz Y hY (by omega)
    have HE7:Hid (∃v,X.cell? ⟨p,7,none⟩=some v):=ah ⟨_,e7⟩;have HF7:=ah f7;have pq:=ah Lm;have fU:=ah bX2;have HX:=ah hX;have MV:=ah hX2;have OY:=ah FB;have gI:=ah hcp;have Ko:=ah hone;have HZN:=ah hzn;have J8:=ah hord;have HU:=ah hU;have oK:=ah hBB;clear hK hBB hU hcp hy hone hS hyg hSz hzn hzi hsucc FB hX bX aX kX hX2 Lm hord hpr aX2 bX2 HR hnx hny f7 e7;go_upto_region 7 with(first
      |((with_reducible refine aqy (.load 63 _) ?_);refine bC rfl 63 _ rfl q rfl _ (aW gI.out Tryz.underlying63 rfl dU) ?_)
      |((with_reducible refine aqy (.store 63 _ _) ?_);refine bD rfl 63 _ _ rfl _ rfl _ rfl (aS (aU.new W _ _ _) (aT y) dU (fC _ Ko.out _)) ?_))
    rw [<-HX.out, <-OY.out];have f7:=HF7.out;obtain⟨v7,e7⟩:=HE7.out;clear HX gI OY Ko;go_upto_region 8 with fail
    rw [<-MV.out];clear MV f7 e7;refine wp_region_held_drew (S:=fun Y=>Save m1 X2 Y) (by kernel_rfl) (show Save m1 X2 X2.drew from(aI m1 X2).drewN 1) (fun hS=> ?_);obtain⟨Y0,hY0⟩:=aqx (X2.drew);rw [<-hY0]at hS⊢;have HST:Hid (mM B Y0 p m1 m2 m3 m4 base b (n:Int) n (Lp x n) [] [] [] []):=ah (by rw [hY0];exact pq.out.drewN 1);clear hY0;refine tP 0 ?_;refine tP 1 ?_;refine tP 2 ?_;refine tP 3 ?_;refine tP 4 (hy:=by(intro W hW;obtain⟨z0,z1⟩:=ak (DX.out W hW) True.intro;clear hW;go_split_ands;go_simp;(try with_reducible rfl))) ?_;refine tP 5 ?_;refine tP 6 (hy:=by(intro W hW;obtain⟨z0,z1⟩:=ak (DX.out W hW) True.intro;clear hW;go_split_ands;go_simp;(try with_reducible rfl))) ?_;refine oQ 7 fun K7 hK7=> ?_;go_simp;refine(IW.out _ HST.out.s1).mono ?_;rintro e y7 ⟨rfl,ha,hb⟩;have Vl:Hid (mM B y7 p m1 m2 m3 m4 base b (n:Int) (n+1) (Lp x (n+1)) [] [] [] []/\ Below B w y7):=ah ⟨HST.out.take1 (Nat.le_succ _) hb ha,(fU.out.trans (Save.below (aJ hS hb) (by have:=J8.out;omega) (by have:=pq.out.ord;omega)))⟩;refine hK7 _ _ (aJ hS hb) (fun hS7=> ?_);clear hS ha hb hK7 K7;refine oQ 8 fun K8 hK8=> ?_;go_simp;refine(jJ zn 2 n p _ (DX.out _ hS7).2.2).mono ?_;rintro e y8 ⟨⟨hz,rfl⟩|⟨hz,rfl⟩,rfl⟩
    rotate_left
    · exact⟨rfl,.no (adM.out n ach.out hlt HU.out (by rw [<-HZN.out];exact hz)) (by decide) Vl.out.2⟩
    have HZ:=ah hz;clear hz;refine hK8 _ _ hS7 (fun qw=> ?_);clear hS7 hK8 K8;refine wpAnyH_done (by kernel_rfl) ?_ _;go_wp2_with fail
    go_roundw
    case rel=>exact⟨n+1,by omega,by go_num,ah ⟨⟨_,Vl.out.1⟩,Vl.out.2,by rw [upto_succ,HU.out,show aZ (nameB x n) 2 n (0,0)=(0,0) by rw [<-HZN.out,HZ.out];exact eP _ _ _]⟩⟩
    case measure=>simp [intOf];omega
  · obtain rfl:n=N:=by omega
    go_wp2_with fail
    go_end0;exact .yes (by unfold mX;rw [ach.out, <-HN.out];exact HR.out.2.2) HR.out.1 HR.out.2.1
open Go.RowKit Go.Maps
attribute [local go_sem ↓ high] jo
theorem Yz(b:Bd)(w:World):Calls Tryz.prog 18 #[.agg (vec 7 (kH b))] w fun e w'=>e= .returned (.pointer (some ⟨w.heap.size+5,0,none⟩))/\ mM w.heap.size w' (w.heap.size+5) (w.heap.size+1) (w.heap.size+2) (w.heap.size+3) (w.heap.size+4) (w.heap.size+6) b 0 0 [] [] [] [] []/\ Below w.heap.size w w':=by
 have hmm:= @run_makeMap Tryz.prog;obtain⟨s0,hs0⟩:=aqx (w.heap.size);obtain⟨V0,hV0⟩:=aqx (w.alloc (.cells (vec 7 (kH b)) 26));obtain⟨V1,hV1⟩:=aqx (V0.alloc (.map #[] 0));obtain⟨V2,hV2⟩:=aqx (V1.alloc (.map #[] 0));obtain⟨V3,hV3⟩:=aqx (V2.alloc (.map #[] 0));obtain⟨V4,hV4⟩:=aqx (V3.alloc (.map #[] 0));obtain⟨V5,hV5⟩:=aqx (V4.alloc (.cells (vec 13 (kE b 0 (s0+1) (s0+2) (s0+3) (s0+4) (.slice none 0 0))) 98));have z0:V0.heap.size=s0+1:=(by rw [hV0,hs0];simp);have z1:V1.heap.size=s0+2:=(by rw [hV1];simp [z0]);have z2:V2.heap.size=s0+3:=(by rw [hV2];simp [z1]);have z3:V3.heap.size=s0+4:=(by rw [hV3];simp [z2]);have z4:V4.heap.size=s0+5:=(by rw [hV4];simp [z3]);have z5:V5.heap.size=s0+6:=(by rw [hV5];simp [z4]);have b0:Below w.heap.size w V0:=(by rw [hV0];exact Below.aY _ _);have b1:Below V0.heap.size V0 V1:=(by rw [hV1];exact Below.aY _ _);have b2:Below V1.heap.size V1 V2:=(by rw [hV2];exact Below.aY _ _);have b3:Below V2.heap.size V2 V3:=(by rw [hV3];exact Below.aY _ _);have b4:Below V3.heap.size V3 V4:=(by rw [hV4];exact Below.aY _ _);have b5:Below V4.heap.size V4 V5:=(by rw [hV5];exact Below.aY _ _);have q1:gJ 9 V1 (s0+1) 0 []:=(by rw [<-z0,hV1];exact gJ.begin _ _);have q2:gJ 3 V2 (s0+2) 0 []:=(by rw [<-z1,hV2];exact gJ.begin _ _);have q3:gJ 3 V3 (s0+3) 0 []:=(by rw [<-z2,hV3];exact gJ.begin _ _);have q4:gJ 27 V4 (s0+4) 0 []:=(by rw [<-z3,hV4];exact gJ.begin _ _);have q5:aU V5 (s0+5) 98 13 (kE b 0 (s0+1) (s0+2) (s0+3) (s0+4) (.slice none 0 0)):=(by rw [<-z4,hV5];exact aU.new _ _ _ _);have HK:Hid (mM w.heap.size V5 (w.heap.size+5) (w.heap.size+1) (w.heap.size+2) (w.heap.size+3) (w.heap.size+4) (w.heap.size+6) b 0 0 [] [] [] [] []/\ Below w.heap.size w V5):=ah (by
  rw [<-hs0];refine⟨⟨by omega,⟨none,0,q5,gW.nil _ _⟩,(((q1.under b2).under b3).under b4).under b5,((q2.under b3).under b4).under b5,(q3.under b4).under b5,q4.under b5⟩, ?_⟩;have k1:=b0.trans (b1.mono (by omega));have k2:=k1.trans (b2.mono (by omega));have k3:=k2.trans (b3.mono (by omega));have k4:=k3.trans (b4.mono (by omega));have k5:=k4.trans (b5.mono (by omega));rw [hs0];exact k5)
 have HA:Hid (aU V0 s0 26 7 (kH b)):=ah (by rw [hV0,hs0];exact aU.new _ _ _ _);have H0:=ah (ak hV0 hs0);have H1:=ah (ak hV1 z0);have H2:=ah (ak hV2 z1);have H3:=ah (ak hV3 z2);have H4:=ah (ak hV4 z3);have H5:=ah (ak hV5 z4);clear hs0 hV0 hV1 hV2 hV3 hV4 hV5 z0 z1 z2 z3 z4 z5 b0 b1 b2 b3 b4 b5 q1 q2 q3 q4 q5;go_enter Tryz.func18,Tryz.ntmps18;go_upto_region 1 with fail
 rw [<-H0.out.1, <-H0.out.2];go_wp2_with(first
  |((with_reducible refine aqy (.load 26 _) ?_);refine bM rfl 26 _ rfl s0 rfl _ (aQ HA.out Tryz.underlying26 rfl iU) ?_)
  |((with_reducible refine aqy (.build _ _) ?_);rw [H1.out.2, <-H1.out.1, <-H2.out.1, <-H3.out.1, <-H4.out.1];refine dh rfl 98 _ rfl (vec 13 (kE b 0 (s0+1) (s0+2) (s0+3) (s0+4) (.slice none 0 0))) (by kernel_rfl) ?_))
 go_ret;rw [<-H5.out.1,H5.out.2];exact⟨by rw [H0.out.2];rfl,HK.out⟩
open Go.RowKit Go.Maps
attribute [local go_sem ↓ high] jo nK
theorem N9(q0 q1 q2:Value)(w:World):CallsD Tryz.prog 17 #[q0,q1,q2] .returning w fun e u' w'=>e= .returned (.tuple #[])/\ u'= .returning/\ w'=w:=by
 refine callsD_of_wpS Tryz.func17 rfl fun c₀ cs hu=> ?_
 apply wpS_seq
 apply wpS_region
 simp [wpOpsS,go_sem,recoverD,hu,Tryz.ntmps17,Exit.thenS];refine wpS_of_wp ?_;rw [show(#[q0,q1,q2]++((Array.replicate 11 undef).setIfInBounds 2 Value.nilIface).setIfInBounds 0 Value.nilIface)= #[q0,q1,q2,Value.nilIface,undef,Value.nilIface,undef,undef,undef,undef,undef,undef,undef,undef]from rfl];go_wp2
 cases c₀
 simp_all [bodyPostS,results,Tryz.results17]
theorem Oa(v:Value)(T:TypeId)(w:World):(Instr.typeAssert (.iface 69 v) T 69 false).run Tryz.prog w= .ok v w:=by
 simp [Instr.typeAssert,run_underlying Tryz.underlying69]
theorem wG(g0 g1 g2 m r k:Nat)(z0 z1 z2:Int)(older:List PanicEntry)(w:World)(h0:fB w g0 3 #[.int .i64 z0])(h1:fB w g1 3 #[.int .i64 z1])(h2:fB w g2 34 #[.int .i64 z2])(d1:g1≠g0)(d2:g2≠g0)(d3:g1≠g2)(m0:m<=g0)(m1:m<=g1)(m2:m<=g2):
  CallsD Tryz.prog 17 #[.pointer (some ⟨g0,0,none⟩),.pointer (some ⟨g1,0,none⟩),.pointer (some ⟨g2,0,none⟩)] (.panicking ({ v:=Bj r k,recovered:=false }::older)) w fun e u' w'=>
   e= .returned (.tuple #[])/\ u'= .panicking ({ v:=Bj r k,recovered:=true }::older)/\ fB w' g0 3 #[.int .i64 (r:Int)]/\ fB w' g1 3 #[.int .i64 (k:Int)]/\ fB w' g2 34 #[.int .i64 170]/\ Below m w w':=by
 unfold Bj;refine callsD_of_wpS Tryz.func17 rfl fun c₀ cs hu=> ?_
 apply wpS_seq
 apply wpS_region
 simp [wpOpsS,go_sem,recoverD,hu,Tryz.ntmps17,Exit.thenS];refine wpS_of_wp ?_;rw [show(#[Value.pointer (some ⟨g0,0,none⟩),Value.pointer (some ⟨g1,0,none⟩),Value.pointer (some ⟨g2,0,none⟩)]++((Array.replicate 11 undef).setIfInBounds 2 (Value.iface 69 (Value.agg #[Value.int IntKind.i64 ↑r,Value.int IntKind.i64 ↑k]))).setIfInBounds 0 (Value.iface 69 (Value.agg #[Value.int IntKind.i64 ↑r,Value.int IntKind.i64 ↑k])))
  = #[Value.pointer (some ⟨g0,0,none⟩),Value.pointer (some ⟨g1,0,none⟩),Value.pointer (some ⟨g2,0,none⟩),Value.iface 69 (Value.agg #[Value.int IntKind.i64 ↑r,Value.int IntKind.i64 ↑k]),undef,Value.iface 69 (Value.agg #[Value.int IntKind.i64 ↑r,Value.int IntKind.i64 ↑k]),undef,undef,undef,undef,undef,undef,undef,undef]from rfl]
 obtain⟨W3,hW3⟩:=aqx (w.alloc (.cells #[Value.int IntKind.i64 (r:Int),Value.int IntKind.i64 (k:Int)] 69));have hB:Below w.heap.size w W3:=(by rw [hW3];exact(aC _ _).alloc (aj _) _);obtain⟨g3,hg3⟩:=aqx (w.heap.size);have h3:fB W3 g3 69 #[Value.int IntKind.i64 (r:Int),Value.int IntKind.i64 (k:Int)]:=(by rw [hW3];exact fB.new _ _ _ hg3);have l0:=h0.lt;have l1:=h1.lt;have l2:=h2.lt;have HA:=ah (ak (h0.under hB) (ak (h1.under hB) (ak (h2.under hB) (ak h3 (hB.mono (aA m0 (Nat.le_of_lt l0)))))));have HN:=ah (ak d1 (ak d2 (ak d3 (ak (show g3≠g0 by omega) (ak (show g3≠g1 by omega) (ak (show g3≠g2 by omega) (ak m0 (ak m1 m2))))))));have HW:=ah hW3;have HG:=ah hg3;clear hB h3 l0 l1 l2 h0 h1 h2 hW3 hg3 d1 d2 d3 m0 m1 m2;have hta:=Oa;go_upto_region 3 with fail
 clear hta;rw [<-HW.out, <-HG.out];clear HW HG;refine wp_region_held_drew (S:=fun Y=>Y.cell? ⟨g3,0,none⟩=some (.int .i64 (r:Int))/\ Y.cell? ⟨g3,1,none⟩=some (.int .i64 (k:Int))) (by kernel_rfl) ⟨HA.out.2.2.2.1.cellAt 0 rfl,HA.out.2.2.2.1.cellAt 1 rfl⟩ (fun hS=> ?_);refine tP 0 ?_;refine tP 1 (v:= .int .i64 (r:Int)) (hy:=by(intro W hW;obtain⟨k0,k1⟩:=hW;go_simp;(try with_reducible rfl))) ?_;refine tP 2 ?_;refine tP 3 (v:= .int .i64 (k:Int)) (hy:=by(intro W hW;obtain⟨k0,k1⟩:=hW;go_simp;(try with_reducible rfl))) ?_;refine oQ 4 fun K4 hK4=> ?_;have e4:=((show fB W3.drew g0 _ _ from HA.out.1.drewN 1)).cellAt 0 rfl;have f4:=((show fB W3.drew g0 _ _ from HA.out.1.drewN 1)).free 0;go_simp;obtain⟨Y4,hY⟩:=aqx (W3.setCell ⟨g0,0,none⟩ (.int .i64 (r:Int)));have b0:fB Y4 g0 3 #[.int .i64 (r:Int)]:=(by rw [hY];exact((show fB W3 g0 _ _ from HA.out.1)).setAt 0 _);have b1:fB Y4 g1 3 #[.int .i64 z1]:=(by rw [hY];exact((show fB W3 g1 _ _ from HA.out.2.1)).jB HN.out.1 _);have b2:fB Y4 g2 34 #[.int .i64 z2]:=(by rw [hY];exact((show fB W3 g2 _ _ from HA.out.2.2.1)).jB HN.out.2.1 _);have b3:fB Y4 g3 69 #[.int .i64 (r:Int),.int .i64 (k:Int)]:=(by rw [hY];exact((show fB W3 g3 _ _ from HA.out.2.2.2.1)).jB HN.out.2.2.2.1 _);have b4:Below m W3 Y4:=(by rw [hY];exact(aC m W3).setCell HN.out.2.2.2.2.2.2.1 _);rw [<-hY];clear hY e4 f4;have HB:=ah (ak b0 (ak b1 (ak b2 b4)));have HB3:=ah b3;refine hK4 _ _ ⟨b3.cellAt 0 rfl,b3.cellAt 1 rfl⟩ (fun hS4=> ?_);clear hS hK4 K4 b0 b1 b2 b3 b4;refine oQ 5 fun K5 hK5=> ?_;have e5:=(HB.out.2.1).cellAt 0 rfl;have f5:=(HB.out.2.1).free 0;go_simp;obtain⟨Y5,hY⟩:=aqx (Y4.setCell ⟨g1,0,none⟩ (.int .i64 (k:Int)));have b0:fB Y5 g0 3 #[.int .i64 (r:Int)]:=(by rw [hY];exact(HB.out.1).jB HN.out.1.symm _);have b1:fB Y5 g1 3 #[.int .i64 (k:Int)]:=(by rw [hY];exact(HB.out.2.1).setAt 0 _);have b2:fB Y5 g2 34 #[.int .i64 z2]:=(by rw [hY];exact(HB.out.2.2.1).jB HN.out.2.2.1.symm _);have b3:fB Y5 g3 69 #[.int .i64 (r:Int),.int .i64 (k:Int)]:=(by rw [hY];exact(HB3.out).jB HN.out.2.2.2.2.1 _);have b4:Below m W3 Y5:=(by rw [hY];exact(HB.out.2.2.2).setCell HN.out.2.2.2.2.2.2.2.1 _);rw [<-hY];clear hY e5 f5;have HB:=ah (ak b0 (ak b1 (ak b2 b4)));have HB3:=ah b3;refine hK5 _ _ ⟨b3.cellAt 0 rfl,b3.cellAt 1 rfl⟩ (fun hS5=> ?_)
 clear hS4 hK5 K5 b0 b1 b2 b3 b4;refine oQ 6 fun K6 hK6=> ?_;have e6:=(HB.out.2.2.1).cellAt 0 rfl;have f6:=(HB.out.2.2.1).free 0;go_simp;obtain⟨Y6,hY⟩:=aqx (Y5.setCell ⟨g2,0,none⟩ (.int .i64 170));have b0:fB Y6 g0 3 #[.int .i64 (r:Int)]:=(by rw [hY];exact(HB.out.1).jB HN.out.2.1.symm _);have b1:fB Y6 g1 3 #[.int .i64 (k:Int)]:=(by rw [hY];exact(HB.out.2.1).jB HN.out.2.2.1 _);have b2:fB Y6 g2 34 #[.int .i64 170]:=(by rw [hY];exact(HB.out.2.2.1).setAt 0 _);have b3:fB Y6 g3 69 #[.int .i64 (r:Int),.int .i64 (k:Int)]:=(by rw [hY];exact(HB3.out).jB HN.out.2.2.2.2.2.1 _);have b4:Below m W3 Y6:=(by rw [hY];exact(HB.out.2.2.2).setCell HN.out.2.2.2.2.2.2.2.2 _);rw [<-hY];clear hY e6 f6;have HB:=ah (ak b0 (ak b1 (ak b2 b4)));have HB3:=ah b3;refine hK6 _ _ ⟨b3.cellAt 0 rfl,b3.cellAt 1 rfl⟩ (fun hS6=> ?_);clear hS5 hK6 K6 b0 b1 b2 b3 b4;refine wpAnyH_done (by kernel_rfl) ?_ _;exact⟨rfl,_,rfl,_,results_none rfl _ _ _,rfl,rfl,HB.out.1,HB.out.2.1,HB.out.2.2.1,HA.out.2.2.2.2.trans (below_drewN HB.out.2.2.2 1)⟩
theorem SV{b:Bd}{x:Cf}:lU b x=if(qB b x).1≠0 then((qB b x).1,(qB b x).2,170)else(0,0,0):=by
 unfold lU;by_cases h:(mO b x).1≠0
 · have e:qB b x=mO b x:=by
    unfold qB;rw [iL (fun i s h=>dM h) h,iL (f:=iZ b x) wF h,iL (f:=kR b x) qZ h,iL (fun i s h=>dM h) h]
   rw [if_pos h,e,if_pos h]
 · rw [if_neg h]
theorem Qr{b:Bd}{x:Cf}(h:(mX b x).1≠0):qB b x=mX b x:=by
 show upto _ _ (upto _ (kR b x) (upto _ (iZ b x) (mX b x)))=_
 rw [iL (f:=iZ b x) wF h,iL (f:=kR b x) qZ h,iL (fun i s h=>dM h) h]
theorem Ob{b:Bd}{x:Cf}(h0:mX b x=(0,0))(h:(lH b x).1≠0):qB b x=lH b x:=by
 have h1:(upto x.gs.length (iZ b x) (0,0)).1≠0:=h;show upto _ _ (upto _ (kR b x) (upto _ (iZ b x) (mX b x)))=_
 rw [h0,iL (f:=kR b x) qZ h1,iL (fun i s h=>dM h) h1]
 rfl
theorem Qs{b:Bd}{x:Cf}(h0:mX b x=(0,0))(h1:lH b x=(0,0))(h:(Du b x).1≠0):qB b x=Du b x:=by
 have h2:(upto x.dH.length (kR b x) (0,0)).1≠0:=h;show upto _ _ (upto _ (kR b x) (upto _ (iZ b x) (mX b x)))=_
 rw [h0,show upto x.gs.length (iZ b x) (0,0)=(0,0)from h1,iL (fun i s h=>dM h) h2]
 rfl
theorem Gv{b:Bd}{x:Cf}(h0:mX b x=(0,0))(h1:lH b x=(0,0))(h2:Du b x=(0,0)):qB b x=Qn x:=by
 show upto _ _ (upto _ (kR b x) (upto _ (iZ b x) (mX b x)))=_
 rw [h0,show upto x.gs.length (iZ b x) (0,0)=(0,0)from h1,show upto x.dH.length (kR b x) (0,0)=(0,0)from h2]
 rfl
theorem zQ{b:Bd}{x:Cf}(h:mX b x=(0,0)):sH b=true/\ lT x=0:=by
 have h1:(mX b x).1=0:=(by rw [h]);have h2:=(vH (f:=fun i=>aZ (nameB x i) 2 i) (P:=fun _=>True) (fun i s hs=>⟨(jK (by decide) hs).2,trivial⟩) x.gs.length (mO b x) h1).1;unfold mO at h2;obtain⟨h3,h4⟩:=jK (by decide) h2;exact⟨(jK (by decide) h4).1,by simpa using h3⟩
def Dv(b:Bd)(x:Cf)(w:World)(e:Ending)(w':World):Prop:=e= .returned (.tuple #[.int .i64 ((lU b x).1:Int),.int .i64 ((lU b x).2.1:Int),.int .i64 ((lU b x).2.2:Int)])/\ Below w.heap.size w w'
def Vo:Prop:=∀ (x:Cf) (a c:Value) (b:Bd) (w:World),uw w w.heap.size x a c->Aj x->qU x=true->fit b.r->fit b.l->Calls Tryz.prog 10 #[.agg (vec 7 (kH b)),ji x a c] w (Dv b x w)
structure wP(s0:Nat)(Y:World)(r k e:Int):Prop where
 r:fB Y (s0+2) 3 #[.int .i64 r]
 k:fB Y (s0+3) 3 #[.int .i64 k]
 e:fB Y (s0+4) 34 #[.int .i64 e]
theorem wP.on{s0 B:Nat}{Y Y':World}{r k e:Int}(h:wP s0 Y r k e)(hb:Below B Y Y')(hB:s0+5<=B):wP s0 Y' r k e:=⟨h.r.below hb (by omega),h.k.below hb (by omega),h.e.below hb (by omega)⟩
theorem wP.loads{s0:Nat}{Y:World}{r k e:Int}(h:wP s0 Y r k e):(loadVar 3 ⟨s0+2,0,none⟩).run Tryz.prog Y= .ok (.int .i64 r) Y/\ (loadVar 3 ⟨s0+3,0,none⟩).run Tryz.prog Y= .ok (.int .i64 k) Y/\ (loadVar 34 ⟨s0+4,0,none⟩).run Tryz.prog Y= .ok (.int .i64 e) Y:=by
 have c0:=h.r.cellAt 0 (v:= .int .i64 r) rfl;have c1:=h.k.cellAt 0 (v:= .int .i64 k) rfl;have c2:=h.e.cellAt 0 (v:= .int .i64 e) rfl;refine⟨?_, ?_, ?_⟩
 · simp [loadVar,go_sem,Tryz.isAgg3,c0]
 · simp [loadVar,go_sem,Tryz.isAgg3,c1]
 · simp [loadVar,go_sem,Tryz.isAgg34,c2]
theorem zS:Vo:=fun x a c b w hx hb hf hr hl=>by
 obtain⟨s0,hs0⟩:=aqx (w.heap.size);obtain⟨V,hV⟩:=aqx (((((w.alloc (.cells (vec 7 (kH b)) 26)).alloc (.cells (vec 3 (eX x.ver a c)) 31)).alloc (.cells #[.int .i64 0] 3)).alloc (.cells #[.int .i64 0] 3)).alloc (.cells #[.int .i64 0] 34));have vz:V.heap.size=s0+5:=(by rw [hV,hs0];simp);have vB:Below w.heap.size w V:=(by rw [hV];exact Laid.below ⟨[_,_,_,_,_],rfl⟩);have v2:aU V s0 26 7 (kH b):=(by rw [hV,hs0];exact((((aU.new w _ _ _).alloc _).alloc _).alloc _).alloc _);have v3:aU V (s0+1) 31 3 (eX x.ver a c):=(by rw [hV,hs0];exact(((aU.newAt _ _ _ _ (by simp)).alloc _).alloc _).alloc _);have vr:wP s0 V 0 0 0:=by
   rw [hV,hs0];exact⟨((fB.new _ _ _ (by simp)).alloc _).alloc _,(fB.new _ _ _ (by simp)).alloc _,fB.new _ _ _ (by simp)⟩
 obtain⟨B,hB⟩:=aqx (V.heap.size);obtain⟨p,hp⟩:=aqx (V.heap.size+5);have hxB:uw V B x a c:=(hx.below vB).wide (by omega);have adR:=ah (Yz b V);rw [<-hp, <-hB]at adR;have HX:Hid (∀Y,Below B V Y->uw Y B x a c):=(ah fun Y hY=>hxB.below hY);have Qu:Hid (∀Y,Below B V Y->wP s0 Y 0 0 0):=(ah fun Y hY=>vr.on hY (by omega));have HCF:Hid (∀Y,Below B V Y->aU Y (s0+1) 31 3 (eX x.ver a c)):=(ah fun Y hY=>v3.below hY (by omega));have H2:=ah v2;have oK:=ah hb;have Ji:=ah hf;have Bg:=ah (ak hr hl);have HB:=ah (ak vB (show w.heap.size<=B by omega));have Lc:Hid (s0+5<=B/\ s0=w.heap.size):=ah ⟨by omega,hs0⟩;have yP:Hid (∀ (s:Nat × Nat) w',qB b x=s->s.1≠0->Below w.heap.size w w'->Dv b x w (.returned (.tuple #[.int .i64 (s.1:Int),.int .i64 (s.2:Int),.int .i64 170])) w'):=ah fun s w' h1 h2 h3=>by
   unfold Dv;rw [SV,h1,if_pos h2];exact⟨rfl,h3⟩
 have aic:Hid (∀w',qB b x=(0,0)->Below w.heap.size w w'->Dv b x w (.returned (.tuple #[.int .i64 0,.int .i64 0,.int .i64 0])) w'):=ah fun w' h1 h3=>by
   unfold Dv;rw [SV,h1,if_neg (by decide)];exact⟨rfl,h3⟩
 have HV:=ah hV;have HS:=ah hs0;have hmf:∀ (fn:Fn) (first cap:Array Value) (w:World),(Instr.makeFunc fn first cap).run Tryz.prog w= .ok (.func fn first cap) w:=(fun _ _ _ _=>rfl);obtain⟨Q,hQ⟩:=aqx (Dv b x w);rw [<-hQ]at yP aic⊢;unfold ji;clear hs0 hV vz vB v2 v3 vr hB hp hxB hx hb hf hr hl hQ
 go_enter_defers Tryz.func10,Tryz.ntmps10
 go_upto_region 1 with fail
 rw [<-HV.out, <-HS.out];clear HV HS;go_upto_region 3 with(first
   |((with_reducible refine aqy (.load 26 _) ?_);refine bM rfl 26 _ rfl s0 rfl _ (aQ H2.out Tryz.underlying26 rfl iU) ?_)
   |(go_at_call 18;refine adR.out.mono ?_;rintro e w1 ⟨rfl,hk,hd⟩;have Vl:=ah hk;have HD1:=ah hd;clear hk hd))
 clear hmf adR H2;go_wp2_with(first
   |((with_reducible refine aqy (.load 31 _) ?_);refine bM rfl 31 _ rfl (s0+1) rfl _ (aQ (HCF.out _ HD1.out) Tryz.underlying31 rfl dR) ?_))
 refine(Qp x a c b B p _ _ _ _ _ w1 (HX.out _ HD1.out) oK.out Ji.out Bg.out.1 Bg.out.2 Vl.out).mono ?_;rintro e w2 ⟨⟨hs,rfl,hg⟩|⟨hs,rfl⟩,hb⟩
 rotate_left
 · have HQ:=ah (Qu.out _ (HD1.out.trans hb))
   have HBQ:=ah (HB.out.1.trans ((HD1.out.trans hb).mono HB.out.2));have NS:=ah hs;have hz:=Lc.out;refine leaves_cons (f:=17) (args:= #[.pointer (some ⟨s0+2,0,none⟩),.pointer (some ⟨s0+3,0,none⟩),.pointer (some ⟨s0+4,0,none⟩)]) (by simp) (by simp [go_sem]) ?_;refine(wG (s0+2) (s0+3) (s0+4) w.heap.size _ _ 0 0 0 [] _ HQ.out.r HQ.out.k HQ.out.e (by omega) (by omega) (by omega) (by omega) (by omega) (by omega)).mono ?_;rintro e u' w2 ⟨rfl,rfl,k0,k1,k2,kb⟩;have hr2:wP s0 w2 _ _ _:=⟨k0,k1,k2⟩;obtain⟨l0,l1,l2⟩:=hr2.loads;exact⟨_,qX rfl _ _ _ _ _ _ _ rfl rfl rfl l0 l1 l2,yP.out _ _ (Qr NS.out) NS.out (HBQ.out.trans kb)⟩
 have uq:=ah hs;have HD2:=ah (HD1.out.trans hb);obtain⟨wh2,hk⟩:=hg;have Yw:=ah hk;have HLEN:Hid (x.gs.length<=1000):=ah (by have:=(iI Ji.out).1;omega);clear hs hb hk;go_wp2_with(first
   |((with_reducible refine aqy (.load 31 _) ?_);refine bM rfl 31 _ rfl (s0+1) rfl _ (aQ (HCF.out _ HD2.out) Tryz.underlying31 rfl dR) ?_))
 refine(NV x a c b B p _ _ _ _ _ _ _ _ w2 (HX.out _ HD2.out) oK.out Ji.out Bg.out.1 Bg.out.2 (zQ uq.out).1 (zQ uq.out).2 HLEN.out Yw.out).mono ?_;rintro e w3 ⟨⟨hs,rfl,hg⟩|⟨hs,rfl⟩,hb⟩
 rotate_left
 · have HQ:=ah (Qu.out _ (HD2.out.trans hb))
   have HBQ:=ah (HB.out.1.trans ((HD2.out.trans hb).mono HB.out.2));have NS:=ah hs;have hz:=Lc.out;refine leaves_cons (f:=17) (args:= #[.pointer (some ⟨s0+2,0,none⟩),.pointer (some ⟨s0+3,0,none⟩),.pointer (some ⟨s0+4,0,none⟩)]) (by simp) (by simp [go_sem]) ?_;refine(wG (s0+2) (s0+3) (s0+4) w.heap.size _ _ 0 0 0 [] _ HQ.out.r HQ.out.k HQ.out.e (by omega) (by omega) (by omega) (by omega) (by omega) (by omega)).mono ?_;rintro e u' w2 ⟨rfl,rfl,k0,k1,k2,kb⟩;have hr2:wP s0 w2 _ _ _:=⟨k0,k1,k2⟩;obtain⟨l0,l1,l2⟩:=hr2.loads;exact⟨_,qX rfl _ _ _ _ _ _ _ rfl rfl rfl l0 l1 l2,yP.out _ _ (Ob uq.out NS.out) NS.out (HBQ.out.trans kb)⟩
 have HS2:=ah hs;have HD3:=ah (HD2.out.trans hb);obtain⟨wh3,N3,-,hk⟩:=hg;have Fj:=ah hk;clear hs hb hk;go_wp2_with(first
   |((with_reducible refine aqy (.load 31 _) ?_);refine bM rfl 31 _ rfl (s0+1) rfl _ (aQ (HCF.out _ HD3.out) Tryz.underlying31 rfl dR) ?_))
 refine(Ql x a c b B p _ _ _ _ _ _ _ _ _ _ _ w3 (HX.out _ HD3.out) oK.out Ji.out Bg.out.1 Bg.out.2 (zQ uq.out).2 HS2.out Fj.out).mono ?_;rintro e w4 ⟨⟨hs,rfl,hg⟩|⟨hs,rfl⟩,hb⟩
 rotate_left
 · have HQ:=ah (Qu.out _ (HD3.out.trans hb))
   have HBQ:=ah (HB.out.1.trans ((HD3.out.trans hb).mono HB.out.2));have NS:=ah hs;have hz:=Lc.out;refine leaves_cons (f:=17) (args:= #[.pointer (some ⟨s0+2,0,none⟩),.pointer (some ⟨s0+3,0,none⟩),.pointer (some ⟨s0+4,0,none⟩)]) (by simp) (by simp [go_sem]) ?_;refine(wG (s0+2) (s0+3) (s0+4) w.heap.size _ _ 0 0 0 [] _ HQ.out.r HQ.out.k HQ.out.e (by omega) (by omega) (by omega) (by omega) (by omega) (by omega)).mono ?_;rintro e u' w2 ⟨rfl,rfl,k0,k1,k2,kb⟩;have hr2:wP s0 w2 _ _ _:=⟨k0,k1,k2⟩;obtain⟨l0,l1,l2⟩:=hr2.loads;exact⟨_,qX rfl _ _ _ _ _ _ _ rfl rfl rfl l0 l1 l2,yP.out _ _ (Qs uq.out HS2.out NS.out) NS.out (HBQ.out.trans kb)⟩
 have wR:=ah hs;have HD4:=ah (HD3.out.trans hb);obtain⟨wh4,aov,hk⟩:=hg;have HK4:=ah hk;clear hs hb hk;go_wp2_with(first
   |((with_reducible refine aqy (.load 31 _) ?_);refine bM rfl 31 _ rfl (s0+1) rfl _ (aQ (HCF.out _ HD4.out) Tryz.underlying31 rfl dR) ?_))
 refine(Qo x a c b B p _ _ _ _ _ _ _ _ _ _ _ _ w4 (HX.out _ HD4.out) oK.out Ji.out HK4.out).mono ?_;rintro e w5 ⟨⟨hs,rfl,hg⟩|⟨hs,rfl⟩,hb⟩
 rotate_left
 · have HQ:=ah (Qu.out _ (HD4.out.trans hb))
   have HBQ:=ah (HB.out.1.trans ((HD4.out.trans hb).mono HB.out.2));have NS:=ah hs;have hz:=Lc.out;refine leaves_cons (f:=17) (args:= #[.pointer (some ⟨s0+2,0,none⟩),.pointer (some ⟨s0+3,0,none⟩),.pointer (some ⟨s0+4,0,none⟩)]) (by simp) (by simp [go_sem]) ?_;refine(wG (s0+2) (s0+3) (s0+4) w.heap.size _ _ 0 0 0 [] _ HQ.out.r HQ.out.k HQ.out.e (by omega) (by omega) (by omega) (by omega) (by omega) (by omega)).mono ?_;rintro e u' w2 ⟨rfl,rfl,k0,k1,k2,kb⟩;have hr2:wP s0 w2 _ _ _:=⟨k0,k1,k2⟩;obtain⟨l0,l1,l2⟩:=hr2.loads;exact⟨_,qX rfl _ _ _ _ _ _ _ rfl rfl rfl l0 l1 l2,yP.out _ _ (Gv uq.out HS2.out wR.out) NS.out (HBQ.out.trans kb)⟩
 have HS4:=ah hs;have HD5:=ah (HD4.out.trans hb);clear hs hb hg;have OY:=ah (Qu.out _ HD5.out);have c0:=OY.out.r.cellAt 0 (v:= .int .i64 0) rfl;have f0:=OY.out.r.free 0;have c1:=OY.out.k.cellAt 0 (v:= .int .i64 0) rfl;have f1:=OY.out.k.free 0;have c2:=OY.out.e.cellAt 0 (v:= .int .i64 0) rfl;have f2:=OY.out.e.free 0;have HRZ:Hid (∀Y,Y=((w5.setCell ⟨s0+2,0,none⟩ (.int .i64 0)).setCell ⟨s0+3,0,none⟩ (.int .i64 0)).setCell ⟨s0+4,0,none⟩ (.int .i64 0)->wP s0 Y 0 0 0/\ Below w.heap.size w Y):=ah fun Y hY=>by
   subst hY;have hz:=Lc.out;refine⟨⟨?_, ?_, ?_⟩, ?_⟩
   · exact((OY.out.r.setAt 0 _).jB (p:=⟨s0+3,0,none⟩) (by show s0+2≠s0+3;omega) _).jB (p:=⟨s0+4,0,none⟩) (by show s0+2≠s0+4;omega) _
   · exact((OY.out.k.jB (p:=⟨s0+2,0,none⟩) (by show s0+3≠s0+2;omega) _).setAt 0 _).jB (p:=⟨s0+4,0,none⟩) (by show s0+3≠s0+4;omega) _
   · exact((OY.out.e.jB (p:=⟨s0+2,0,none⟩) (by show s0+4≠s0+2;omega) _).jB (p:=⟨s0+3,0,none⟩) (by show s0+4≠s0+3;omega) _).setAt 0 _
   · exact(((HB.out.1.trans (HD5.out.mono HB.out.2)).setCell (p:=⟨s0+2,0,none⟩) (by show w.heap.size<=s0+2;omega) _).setCell (p:=⟨s0+3,0,none⟩) (by show w.heap.size<=s0+3;omega) _).setCell (p:=⟨s0+4,0,none⟩) (by show w.heap.size<=s0+4;omega) _
 have d1:(w5.setCell ⟨s0+2,0,none⟩ (.int .i64 0)).cell? ⟨s0+3,0,none⟩=some (.int .i64 0):=(OY.out.k.jB (p:=⟨s0+2,0,none⟩) (by show s0+3≠s0+2;omega) _).cellAt 0 rfl;have e1:(w5.setCell ⟨s0+2,0,none⟩ (.int .i64 0)).frozen? ⟨s0+3,0,none⟩=false:=(OY.out.k.jB (p:=⟨s0+2,0,none⟩) (by show s0+3≠s0+2;omega) _).free 0;have d2:((w5.setCell ⟨s0+2,0,none⟩ (.int .i64 0)).setCell ⟨s0+3,0,none⟩ (.int .i64 0)).cell? ⟨s0+4,0,none⟩=some (.int .i64 0):=((OY.out.e.jB (p:=⟨s0+2,0,none⟩) (by show s0+4≠s0+2;omega) _).jB (p:=⟨s0+3,0,none⟩) (by show s0+4≠s0+3;omega) _).cellAt 0 rfl;have e2:((w5.setCell ⟨s0+2,0,none⟩ (.int .i64 0)).setCell ⟨s0+3,0,none⟩ (.int .i64 0)).frozen? ⟨s0+4,0,none⟩=false:=((OY.out.e.jB (p:=⟨s0+2,0,none⟩) (by show s0+4≠s0+2;omega) _).jB (p:=⟨s0+3,0,none⟩) (by show s0+4≠s0+3;omega) _).free 0;go_wp2_with fail
 refine leaves_cons (f:=17) (args:= #[.pointer (some ⟨s0+2,0,none⟩),.pointer (some ⟨s0+3,0,none⟩),.pointer (some ⟨s0+4,0,none⟩)]) (by simp) (by simp [go_sem]) ?_;refine(N9 _ _ _ _).mono ?_;rintro e u' w'' ⟨rfl,rfl,rfl⟩;obtain⟨hz1,hz2⟩:=HRZ.out _ rfl;obtain⟨l0,l1,l2⟩:=hz1.loads;exact⟨_,qX rfl _ _ _ _ _ _ _ rfl rfl rfl l0 l1 l2,aic.out _ (by rw [Gv uq.out HS2.out wR.out];exact HS4.out) hz2⟩
open Go.RowKit Go.Maps
attribute [local go_sem ↓ high] jo oZ oU xE Ae nK sW PG
theorem EK{α:Type}{n:Nat}{enc:α->Nat->Value}{Y:World}{g:Nat}{t:TypeId}{y:α}(h:aU Y g t n (enc y)):bI n enc Y Y.heap.size (some ⟨g,0,none⟩) [y]:=fun _=>
 ⟨_,rfl,h.lt,fun j hj i hi=>by
  have hj:j<1:=hj;obtain rfl:j=0:=by omega
  rw [lF,Nat.zero_add,Nat.zero_mul,Nat.zero_add];exact h.cell hi⟩
theorem YA{α:Type}{n:Nat}{enc:α->Nat->Value}{Y:World}{g:Nat}{t:TypeId}{l:List α}(h:Y.heap[g]?=some (.cells (cellsE n enc l).toArray t (0,0))):bI n enc Y Y.heap.size (some ⟨g,0,none⟩) l:=fun _=>
 ⟨_,rfl,lt_of_heap h,fun j hj i hi=>by
  rw [lF,Nat.zero_add];refine(cell_of_row Y g _ _ t (0,0) h).trans ?_;rw [List.getElem?_toArray];exact nT l j hj i hi⟩
theorem Jo{Y:World}{B cpu pa g1 g3 g4:Nat}(nm key:By)(h:iV B Y cpu pa g1 g3 g4):qI Y Y.heap.size (fQ nm cpu pa key g1 g3 g4):=
 ⟨⟨_,_,rfl,EK h.w,by show 1<=9223372036854775807;decide⟩,⟨none,0,rfl,bI.nil _ _ _,by show 0<=9223372036854775807;decide⟩,⟨_,_,rfl,EK h.i,by show 1<=9223372036854775807;decide⟩,⟨_,_,rfl,EK h.s,by show 1<=9223372036854775807;decide⟩⟩
theorem Jp{Y:World}{B pages pa gG gC g1 g3 g4 h1 h3 h4:Nat}{key:By}(hgs:Y.heap[gG]?=some (.cells (cellsE 79 aT [fQ rM 0 1074790400 key g1 g3 g4,fQ rO 1 pa key h1 h3 h4]).toArray 63 (0,0)))(hch:aU Y gC 47 8 (kJ (rF pages)))
   (m0:iV B Y 0 1074790400 g1 g3 g4) (m1:iV B Y 1 pa h1 h3 h4):uw Y Y.heap.size (Sz pages key pa) (.slice (some ⟨gG,0,none⟩) 2 2) (.slice (some ⟨gC,0,none⟩) 1 1):=by
 have hg:Qi Y Y.heap.size (some ⟨gG,0,none⟩) [fQ rM 0 1074790400 key g1 g3 g4,fQ rO 1 pa key h1 h3 h4]:=⟨YA hgs,fun y hy=>by
   rcases List.mem_cons.1 hy with rfl|hy
   · exact Jo _ _ m0
   · obtain rfl:=List.mem_singleton.1 hy
     exact Jo _ _ m1⟩
 refine⟨⟨⟨_,_,_,rfl,rfl,hg,by show 2<=9223372036854775807;decide⟩,⟨_,_,rfl,EK hch,by show 1<=9223372036854775807;decide⟩⟩,⟨_,_,_,rfl,rfl,hg,fun y hy=> ?_⟩⟩;rcases List.mem_cons.1 hy with rfl|hy
 · exact⟨_,_,rfl,aj 1⟩
 · obtain rfl:=List.mem_singleton.1 hy
   exact⟨_,_,rfl,aj 1⟩
theorem Jq(nm key:By)(hl:key.length=68)(cpu pa:Nat)(hc:cpu<=1)(hp:pa<=18446744073709551615):GsB (Pz nm cpu pa key):=by
 refine⟨by show(0:Int)<=0/\ (0:Int)<=4294967295;decide,by show(0:Int)<=0/\ (0:Int)<=4294967295;decide, ?_,by show(0:Int)<=4096/\ (4096:Int)<=18446744073709551615;decide,by show(0:Int)<=0/\ (0:Int)<=18446744073709551615;decide,hl,fun y hy=> ?_,(fun y hy=>by cases hy),fun y hy=> ?_,fun y hy=> ?_⟩
 · show rP (2^cpu)
   rcases(by omega:cpu=0∨cpu=1)with rfl|rfl<;>(unfold rP;decide)
 · obtain rfl:=List.mem_singleton.1 hy
   unfold KW vJ yI sN;simp only;omega
 · obtain rfl:=List.mem_singleton.1 hy
   unfold IrB yI tN;simp only;omega
 · obtain rfl:=List.mem_singleton.1 hy
   unfold rP;omega
theorem SX(pages:Nat)(hp:pages<=64)(key:By)(hl:key.length=68)(pa:Nat)(hpa:pa<=18446744073709551615):Aj (Sz pages key pa):=by
 refine⟨by show(0:Int)<=1/\ (1:Int)<=4294967295;decide,fun g hg=> ?_,fun y hy=> ?_⟩
 · rcases List.mem_cons.1 hg with rfl|hg
   · exact Jq _ _ hl _ _ (by decide) (by decide)
   · obtain rfl:=List.mem_singleton.1 hg
     exact Jq _ _ hl _ _ (by decide) hpa
 · obtain rfl:=List.mem_singleton.1 hy
   unfold Ui EnB vJ yI rF;simp only;omega
theorem Jr(pages:Nat)(key:By)(pa:Nat):qU (Sz pages key pa)=true:=by kernel_rfl
theorem Kr:fit bS.r/\ fit bS.l:=by unfold fit bS;decide
theorem aa'(w:World):Calls Tryz.prog 8 #[] w fun e w'=>e= .returned (.bool true)/\ Below w.heap.size w w':=by
 obtain⟨r1,hr1⟩:=aqx (w.heap.size);obtain⟨V,hV⟩:=aqx ((w.alloc (.cells (vec 68 (oM zb)) 52)).setRow w.heap.size (vec 68 (oM (kF sG))));have bV:Below w.heap.size w V:=(by rw [hV];exact bg ((aC _ _).alloc (aj _) _) (aj _) _);have HA1:Hid (aU V r1 52 68 (oM (kF sG))):=ah (by rw [hV,hr1];exact(aU.new w _ _ _).row _);have HB:=ah bV;have HV:=ah hV;have HR1:=ah hr1;have HSM:Hid (Calls Tryz.prog 16 #[.int .u64 1,.agg (vec 68 (oM (kF sG)))] V (JR 1 sG V)):=ah (Uu 1 (by decide) sG V);clear hr1 hV bV;go_enter Tryz.func8,Tryz.ntmps8;go_upto_region 2 with(first
  |((with_reducible refine aqy (.build _ _) ?_);refine dh rfl 52 _ rfl (vec 68 (oM (kF sG))) (by kernel_rfl) ?_)
  |((with_reducible refine aqy (.store _ _ _) ?_);refine bD rfl 52 _ _ rfl _ rfl _ rfl (aS (aU.new w _ _ _) (oM (kF sG)) nV (fun _ _=>rfl)) ?_))
 rw [<-HV.out, <-HR1.out];clear HV HR1;go_upto_region 3 with(first
  |((with_reducible refine aqy (.load _ _) ?_);refine bM rfl 52 _ rfl r1 rfl _ (aQ HA1.out Tryz.underlying52 rfl nV) ?_)
  |(go_at_call 16;refine HSM.out.mono ?_;rintro e w1 ⟨gG,gC,g1,g3,g4,h1,h3,h4,rfl,hsa,hd⟩;have HSA:=ah hsa;have HD:=ah hd;clear hsa hd)
  |((with_reducible refine aqy (.store 26 _ _) ?_);refine bD rfl 26 _ _ rfl _ rfl _ rfl (aS ((aU.new w1 _ _ _).alloc _) (kH bS) iU (pV _ _)) ?_)
  |((with_reducible refine aqy (.store 31 _ _) ?_);refine bD rfl 31 _ _ rfl (w1.heap.size+1) rfl _ rfl (aS ((aU.newAt _ _ _ _ (by simp)).JG (by omega) _) (eX 1 (.slice (some ⟨gG,0,none⟩) 2 2) (.slice (some ⟨gC,0,none⟩) 1 1)) dR (pW _ _ _ rfl rfl _)) ?_))
 (try simp only [Act.put])
 obtain⟨A9,hA9⟩:∃v:Value,v= .slice (some ⟨gG,0,none⟩) 2 2:=⟨_,rfl⟩;obtain⟨C9,hC9⟩:∃v:Value,v= .slice (some ⟨gC,0,none⟩) 1 1:=⟨_,rfl⟩;obtain⟨r3,hr3⟩:=aqx (w1.heap.size+1);obtain⟨r2,hr2⟩:=aqx (w1.heap.size);obtain⟨W2,hW2⟩:=aqx ((((w1.alloc (.cells (vec 7 (kH zBd)) 26)).alloc (.cells (vec 3 (eX 0 mG mG)) 31)).setRow w1.heap.size (vec 7 (kH bS))).setRow (w1.heap.size+1) (vec 3 (eX 1 (.slice (some ⟨gG,0,none⟩) 2 2) (.slice (some ⟨gC,0,none⟩) 1 1))));rw [<-hW2, <-hr3, <-hr2];have b12:Below w1.heap.size w1 W2:=by
  rw [hW2];exact bg (bg ((Below.aY w1 _).alloc (by simp) _) (aj _) _) (by omega) _
 have k2:aU W2 r2 26 7 (kH bS):=(by rw [hW2,hr2];exact(((aU.new w1 _ _ _).alloc _).row _).JG (by omega) _);have k3:aU W2 r3 31 3 (eX 1 A9 C9):=(by rw [hW2,hr3,hA9,hC9];exact((aU.newAt _ _ _ _ (by simp)).JG (by omega) _).row _);have hsa:=HSA.out;have q0:=hsa.m0.under b12;have q1:=hsa.m1.under b12;have qc:=hsa.ch.under b12;have qg:=(b12.block _ (lt_of_heap hsa.gs)).trans hsa.gs;have hc1:uw W2 W2.heap.size (Sz 1 sG 1075838976) A9 C9:=(by rw [hA9,hC9];exact Jp qg qc q0 q1);have Eh:Hid (Calls Tryz.prog 10 #[.agg (vec 7 (kH bS)),.agg (vec 3 (eX 1 A9 C9))] W2 fun e w'=>e= .returned (.tuple #[.int .i64 0,.int .i64 0,.int .i64 0])/\ Below W2.heap.size W2 w'):=ah (by
  refine(zS (Sz 1 sG 1075838976) A9 C9 bS W2 hc1 (SX 1 (by decide) sG yj.2 _ (by decide)) (Jr _ _ _) Kr.1 Kr.2).mono fun e w' hh=> ?_;obtain⟨h1,h2⟩:=hh;rw [<-ahD,Nv 1 sG (by decide) (by decide) yj.1 yj.2]at h1;exact⟨h1,h2⟩)
 have hne1:gG≠h1:=fun e=>by
  have hw:=q1.w;unfold aU at hw;rw [<-e,qg]at hw;injection hw with hw
  injection hw with _ hw _
  exact absurd hw (by decide)
 have FH:Hid (w.heap.size<=V.heap.size/\ V.heap.size<=w1.heap.size):=ah ⟨HB.out.size,HD.out.size⟩;have HF:Hid (∀w3,Below W2.heap.size W2 w3->(w3.cell? ⟨r3,1,none⟩=some (.slice (some ⟨gG,0,none⟩) 2 2)/\ w3.cell? ⟨gG,154,none⟩=some (.slice (some ⟨h1,0,none⟩) 1 1)/\ w3.cell? ⟨h1,1,none⟩=some (.int .u64 1075838976)/\ w3.frozen? ⟨h1,1,none⟩=false)/\ aU w3 r2 26 7 (kH bS)/\ aU w3 r3 31 3 (eX 1 A9 C9)):=ah fun w3 hw3=>by
  refine⟨⟨by rw [<-hA9];exact(k3.under hw3).cell (i:=1) (by decide), ?_,(q1.w.under hw3).cell (i:=1) (by decide),(q1.w.under hw3).frozen 1⟩,k2.under hw3,k3.under hw3⟩;have:=(hw3.block _ (lt_of_heap qg)).trans qg;exact(cell_of_row w3 gG 154 _ _ (0,0) this).trans (by rw [List.getElem?_toArray];exact nT (n:=79) (enc:=aT) [fQ rM 0 1074790400 sG g1 g3 g4,fQ rO 1 1075838976 sG h1 h3 h4] 1 (by simp) 75 (by decide))
 have HC2:Hid (∀w3 W4,Below W2.heap.size W2 w3->W4=w3.setCell ⟨h1,1,none⟩ (.int .u64 1074786304)->(Calls Tryz.prog 10 #[.agg (vec 7 (kH bS)),.agg (vec 3 (eX 1 A9 C9))] W4 fun e w'=>e= .returned (.tuple #[.int .i64 4,.int .i64 1,.int .i64 170])/\ Below W4.heap.size W4 w')/\ aU W4 r2 26 7 (kH bS)/\ aU W4 r3 31 3 (eX 1 A9 C9)/\ Below w.heap.size w W4):=ah fun w3 W4 hw3 V9=>by
  have p0:=q0.under hw3;have p1:=q1.under hw3;have pc:=qc.under hw3;have pg:=(hw3.block _ (lt_of_heap qg)).trans qg;have hlo:=p1.lo;have far:∀ {g n:Nat} {t:TypeId} {f:Nat->Value},aU w3 g t n f->g≠h1->aU W4 g t n f:=fun h hne=>by rw [V9];exact h.far (p:=⟨h1,1,none⟩) hne _
  have hIW:(65:TypeId)≠67:=(by decide);have hUW:(27:TypeId)≠67:=(by decide);have hCW:(47:TypeId)≠67:=(by decide);have p0':iV V.heap.size W4 0 1074790400 g1 g3 g4:=⟨p0.lo,far p0.w hsa.lo.2.2,far p0.i (fE p0.i p1.w hIW),far p0.s (fE p0.s p1.w hUW)⟩;have pw:aU W4 h1 67 4 (bG (sN 1074786304)):=by
    rw [V9];refine(p1.w.set 1 _).congr fun i hi=> ?_;rcases(by omega:i=0∨i=1∨i=2∨i=3)with rfl|rfl|rfl|rfl<;>rfl
  have p1':iV V.heap.size W4 1 1074786304 h1 h3 h4:=⟨p1.lo,pw,far p1.i (fE p1.i p1.w hIW),far p1.s (fE p1.s p1.w hUW)⟩;have pc':=far pc (fE pc p1.w hCW);have pg':W4.heap[gG]?=some (.cells (cellsE 79 aT [fQ rM 0 1074790400 sG g1 g3 g4,fQ rO 1 1074786304 sG h1 h3 h4]).toArray 63 (0,0)):=by
    rw [V9];exact(Below.heap_setCell w3 ⟨h1,1,none⟩ _ gG hne1).trans pg
  have hc2:uw W4 W4.heap.size (Sz 1 sG 1074786304) A9 C9:=(by rw [hA9,hC9];exact Jp pg' pc' p0' p1');have aoz:=(k2.under hw3).lt;have n2:r2≠h1:=fun e=>by have hz:=hsa.m1.w.lt;omega
  have n3:r3≠h1:=fun e=>by have hz:=hsa.m1.w.lt;omega
  refine⟨?_,far (k2.under hw3) n2,far (k3.under hw3) n3, ?_⟩
  · refine(zS (Sz 1 sG 1074786304) A9 C9 bS W4 hc2 (SX 1 (by decide) sG yj.2 _ (by decide)) (Jr _ _ _) Kr.1 Kr.2).mono fun e w' hh=> ?_
    obtain⟨h1,h2⟩:=hh;rw [UG]at h1;exact⟨h1,h2⟩
  · rw [V9]
    have hl1:=FH.out;have hlo2:=hsa.m1.lo;have hs2:=b12.size;exact((((HB.out.trans (HD.out.mono hl1.1)).trans (b12.mono (by omega))).trans (hw3.mono (by omega)))).setCell (p:=⟨h1,1,none⟩) (by show w.heap.size<=h1;omega) _
 have Yw:=ah (ak k2 k3);clear hA9 hC9 hr3 hr2 hW2 b12 k2 k3 hsa q0 q1 qc qg hc1 hne1 HSA HA1 HSM;obtain⟨A8,hA8⟩:∃v:Value,v=A9:=⟨_,rfl⟩;go_upto_region 4 with(first
  |((with_reducible refine aqy (.load 26 _) ?_);refine bM rfl 26 _ rfl r2 rfl _ (aQ Yw.out.1 Tryz.underlying26 rfl iU) ?_)
  |((with_reducible refine aqy (.load 31 _) ?_);refine bM rfl 31 _ rfl r3 rfl _ (aQ Yw.out.2 Tryz.underlying31 rfl dR) ?_)
  |(go_at_call 10;refine Eh.out.mono ?_;rintro e w3 ⟨rfl,hd⟩;have HD3:=ah hd;clear hd))
 clear hA8 A8;obtain⟨⟨x1,x2,x3,x4⟩,x5,x6⟩:=HF.out w3 HD3.out;clear x5 x6;go_upto_region 5 with fail
 (try simp only [Act.put])
 obtain⟨W4,V9⟩:=aqx (w3.setCell ⟨h1,1,none⟩ (.int .u64 1074786304));rw [<-V9];have HZ:=ah (HC2.out w3 W4 HD3.out V9);clear V9 x1 x2 x3 x4;go_wp2_with(first
  |((with_reducible refine aqy (.load 26 _) ?_);refine bM rfl 26 _ rfl r2 rfl _ (aQ HZ.out.2.1 Tryz.underlying26 rfl iU) ?_)
  |((with_reducible refine aqy (.load 31 _) ?_);refine bM rfl 31 _ rfl r3 rfl _ (aQ HZ.out.2.2.1 Tryz.underlying31 rfl dR) ?_)
  |(go_at_call 10;refine HZ.out.1.mono ?_;rintro e w5 ⟨rfl,hd⟩;have HD5:=ah hd;clear hd))
 go_ret;exact⟨rfl,HZ.out.2.2.2.trans (HD5.out.mono (HZ.out.2.2.2.size))⟩
open Go.RowKit
theorem D7(a b c d:Nat)(hx:fit (a,b))(hy:fit (c,d))(w:World):
   Calls Tryz.prog 59 #[.agg #[.int .u64 (a:Int),.int .u64 (b:Int)],.agg #[.int .u64 (c:Int),.int .u64 (d:Int)]] w fun e w'=>e= .returned (.bool (within (a,b) (c,d)))/\ Below w.heap.size w w':=by
 have Hx:=ah hx;have Hy:=ah hy;by_cases h:good (a,b)=true
 · by_cases k:good (c,d)=true
   · have E:=ah (show within (a,b) (c,d)=(decide (c<=a)&&decide (last (a,b)<=last (c,d))) by
       have hl:=lX h;have kl:=lX k;have hg:=(iq _).1 h;have kg:=(iq _).1 k;simp only at hl kl hg kg;rw [Bool.eq_iff_iff];simp [within,h,k];omega)
     by_cases h1:c<=a
     · by_cases h2:last (a,b)<=last (c,d)
       · rw [show within (a,b) (c,d)=true from by first|(rw [E.out];simp [h1,h2])|(rw [E.out];simp [h1])|simp [within,h,k]|simp [within,h]]
         go_enter Tryz.func59,Tryz.ntmps59;go_wp2
         refine wp_region_held_drew (S:=fun W=>Below w.heap.size w W/\ W.cell? ⟨w.heap.size,0,none⟩=some (.int .u64 (a:Int))/\ W.cell? ⟨w.heap.size,1,none⟩=some (.int .u64 (b:Int))/\ W.cell? ⟨w.heap.size+1,0,none⟩=some (.int .u64 (c:Int))/\ W.cell? ⟨w.heap.size+1,1,none⟩=some (.int .u64 (d:Int))) (by kernel_rfl) (fD w a b c d _ rfl) (fun hS=> ?_);refine tA 0 ?_;refine oQ 1 fun K1 hK1=> ?_;go_simp;refine(ig a b Hx.out _).mono ?_;rintro e w1 ⟨rfl,hd⟩;refine hK1 _ _ (fV hd hS) (fun hS1=> ?_);clear hS hd hK1 K1;refine tA 2 ?_;refine tA 3 ?_;refine oQ 4 fun K4 hK4=> ?_;go_simp;refine(ig c d Hy.out _).mono ?_;rintro e w1 ⟨rfl,hd⟩;refine hK4 _ _ (fV hd hS1) (fun hS4=> ?_);clear hS1 hd hK4 K4;refine tA 5 ?_;refine tA 6 ?_;refine tA 7 ?_;refine tA 8 ?_;refine tA 9 ?_;refine tA 10 ?_;refine tA 11 ?_;refine tA 12 ?_;refine tA 13 ?_;refine tA 14 ?_;refine tA 16 ?_;refine oQ 15 fun K15 Gw=> ?_;go_simp;refine(lY a b Hx.out _).mono ?_;rintro e w1 ⟨rfl,hd⟩;refine Gw _ _ (fV hd hS4) (fun Oc=> ?_);clear hS4 hd Gw K15;refine oQ 17 fun oW eu=> ?_;go_simp;refine(lY c d Hy.out _).mono ?_;rintro e w1 ⟨rfl,hd⟩;refine eu _ _ (fV hd Oc) (fun eY=> ?_);clear Oc hd eu oW;refine tA 18 ?_;refine tA 19 ?_;refine tA 20 ?_;refine wpAnyH_done (by kernel_rfl) ?_ _;go_wp2
         go_ret;exact⟨rfl,eY.1⟩
       · rw [show within (a,b) (c,d)=false from by first|(rw [E.out];simp [h1,h2])|(rw [E.out];simp [h1])|simp [within,h,k]|simp [within,h]]
         go_enter Tryz.func59,Tryz.ntmps59;go_wp2
         refine wp_region_held_drew (S:=fun W=>Below w.heap.size w W/\ W.cell? ⟨w.heap.size,0,none⟩=some (.int .u64 (a:Int))/\ W.cell? ⟨w.heap.size,1,none⟩=some (.int .u64 (b:Int))/\ W.cell? ⟨w.heap.size+1,0,none⟩=some (.int .u64 (c:Int))/\ W.cell? ⟨w.heap.size+1,1,none⟩=some (.int .u64 (d:Int))) (by kernel_rfl) (fD w a b c d _ rfl) (fun hS=> ?_);refine tA 0 ?_;refine oQ 1 fun K1 hK1=> ?_;go_simp;refine(ig a b Hx.out _).mono ?_;rintro e w1 ⟨rfl,hd⟩;refine hK1 _ _ (fV hd hS) (fun hS1=> ?_);clear hS hd hK1 K1;refine tA 2 ?_;refine tA 3 ?_;refine oQ 4 fun K4 hK4=> ?_;go_simp;refine(ig c d Hy.out _).mono ?_;rintro e w1 ⟨rfl,hd⟩;refine hK4 _ _ (fV hd hS1) (fun hS4=> ?_);clear hS1 hd hK4 K4;refine tA 5 ?_;refine tA 6 ?_;refine tA 7 ?_;refine tA 8 ?_;refine tA 9 ?_;refine tA 10 ?_;refine tA 11 ?_;refine tA 12 ?_;refine tA 13 ?_;refine tA 14 ?_;refine tA 16 ?_;refine oQ 15 fun K15 Gw=> ?_;go_simp;refine(lY a b Hx.out _).mono ?_;rintro e w1 ⟨rfl,hd⟩;refine Gw _ _ (fV hd hS4) (fun Oc=> ?_);clear hS4 hd Gw K15;refine oQ 17 fun oW eu=> ?_;go_simp;refine(lY c d Hy.out _).mono ?_;rintro e w1 ⟨rfl,hd⟩;refine eu _ _ (fV hd Oc) (fun eY=> ?_);clear Oc hd eu oW;refine tA 18 ?_;refine tA 19 ?_;refine tA 20 ?_;refine wpAnyH_done (by kernel_rfl) ?_ _;go_wp2
         go_ret;exact⟨rfl,eY.1⟩
     · rw [show within (a,b) (c,d)=false from by first|(rw [E.out];simp [h1,h2])|(rw [E.out];simp [h1])|simp [within,h,k]|simp [within,h]]
       go_enter Tryz.func59,Tryz.ntmps59;go_wp2
       refine wp_region_held_drew (S:=fun W=>Below w.heap.size w W/\ W.cell? ⟨w.heap.size,0,none⟩=some (.int .u64 (a:Int))/\ W.cell? ⟨w.heap.size,1,none⟩=some (.int .u64 (b:Int))/\ W.cell? ⟨w.heap.size+1,0,none⟩=some (.int .u64 (c:Int))/\ W.cell? ⟨w.heap.size+1,1,none⟩=some (.int .u64 (d:Int))) (by kernel_rfl) (fD w a b c d _ rfl) (fun hS=> ?_);refine tA 0 ?_;refine oQ 1 fun K1 hK1=> ?_;go_simp;refine(ig a b Hx.out _).mono ?_;rintro e w1 ⟨rfl,hd⟩;refine hK1 _ _ (fV hd hS) (fun hS1=> ?_);clear hS hd hK1 K1;refine tA 2 ?_;refine tA 3 ?_;refine oQ 4 fun K4 hK4=> ?_;go_simp;refine(ig c d Hy.out _).mono ?_;rintro e w1 ⟨rfl,hd⟩;refine hK4 _ _ (fV hd hS1) (fun hS4=> ?_);clear hS1 hd hK4 K4;refine tA 5 ?_;refine tA 6 ?_;refine tA 7 ?_;refine tA 8 ?_;refine tA 9 ?_;refine tA 10 ?_;refine tA 11 ?_;refine tA 12 ?_;refine tA 13 ?_;refine sQ 14 ?_;refine sQ 16 ?_;refine sQ 15 ?_;refine sQ 17 ?_;refine sQ 18 ?_;refine tA 19 ?_;refine tA 20 ?_;refine wpAnyH_done (by kernel_rfl) ?_ _;go_wp2
       go_ret;exact⟨rfl,hS4.1⟩
   · rw [show within (a,b) (c,d)=false from by first|(rw [E.out];simp [h1,h2])|(rw [E.out];simp [h1])|simp [within,h,k]|simp [within,h]]
     go_enter Tryz.func59,Tryz.ntmps59;go_wp2
     refine wp_region_held_drew (S:=fun W=>Below w.heap.size w W/\ W.cell? ⟨w.heap.size,0,none⟩=some (.int .u64 (a:Int))/\ W.cell? ⟨w.heap.size,1,none⟩=some (.int .u64 (b:Int))/\ W.cell? ⟨w.heap.size+1,0,none⟩=some (.int .u64 (c:Int))/\ W.cell? ⟨w.heap.size+1,1,none⟩=some (.int .u64 (d:Int))) (by kernel_rfl) (fD w a b c d _ rfl) (fun hS=> ?_);refine tA 0 ?_;refine oQ 1 fun K1 hK1=> ?_;go_simp;refine(ig a b Hx.out _).mono ?_;rintro e w1 ⟨rfl,hd⟩;refine hK1 _ _ (fV hd hS) (fun hS1=> ?_);clear hS hd hK1 K1;refine tA 2 ?_;refine tA 3 ?_;refine oQ 4 fun K4 hK4=> ?_;go_simp;refine(ig c d Hy.out _).mono ?_;rintro e w1 ⟨rfl,hd⟩;refine hK4 _ _ (fV hd hS1) (fun hS4=> ?_);clear hS1 hd hK4 K4;refine tA 5 ?_;refine tA 6 ?_;refine sQ 7 ?_;refine sQ 8 ?_;refine sQ 9 ?_;refine sQ 10 ?_;refine sQ 11 ?_;refine tA 12 ?_;refine tA 13 ?_;refine sQ 14 ?_;refine sQ 16 ?_;refine sQ 15 ?_;refine sQ 17 ?_;refine sQ 18 ?_;refine tA 19 ?_;refine tA 20 ?_;refine wpAnyH_done (by kernel_rfl) ?_ _;go_wp2
     go_ret;exact⟨rfl,hS4.1⟩
 · rw [show within (a,b) (c,d)=false from by first|(rw [E.out];simp [h1,h2])|(rw [E.out];simp [h1])|simp [within,h,k]|simp [within,h]]
   go_enter Tryz.func59,Tryz.ntmps59;go_wp2
   refine wp_region_held_drew (S:=fun W=>Below w.heap.size w W/\ W.cell? ⟨w.heap.size,0,none⟩=some (.int .u64 (a:Int))/\ W.cell? ⟨w.heap.size,1,none⟩=some (.int .u64 (b:Int))/\ W.cell? ⟨w.heap.size+1,0,none⟩=some (.int .u64 (c:Int))/\ W.cell? ⟨w.heap.size+1,1,none⟩=some (.int .u64 (d:Int))) (by kernel_rfl) (fD w a b c d _ rfl) (fun hS=> ?_);refine tA 0 ?_;refine oQ 1 fun K1 hK1=> ?_;go_simp;refine(ig a b Hx.out _).mono ?_;rintro e w1 ⟨rfl,hd⟩;refine hK1 _ _ (fV hd hS) (fun hS1=> ?_);clear hS hd hK1 K1;refine tA 2 ?_;refine sQ 3 ?_;refine sQ 4 ?_;refine tA 5 ?_;refine tA 6 ?_;refine sQ 7 ?_;refine sQ 8 ?_;refine sQ 9 ?_;refine sQ 10 ?_;refine sQ 11 ?_;refine tA 12 ?_;refine tA 13 ?_;refine sQ 14 ?_;refine sQ 16 ?_;refine sQ 15 ?_;refine sQ 17 ?_;refine sQ 18 ?_;refine tA 19 ?_;refine tA 20 ?_;refine wpAnyH_done (by kernel_rfl) ?_ _;go_wp2
   go_ret;exact⟨rfl,hS1.1⟩
end Go.Proofs.YtkaipknkjocfiaaGreat
