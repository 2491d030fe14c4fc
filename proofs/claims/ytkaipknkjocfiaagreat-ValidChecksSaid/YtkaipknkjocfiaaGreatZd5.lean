import Derived.Laws.Shifts
import Derived.Laws.BitsAllLaws
import Derived.ArgAppend
import Derived.BigQuiet
import Derived.Test.YtkaipknkjocfiaaGreatZd4
set_option maxRecDepth 100000
set_option maxHeartbeats 64000000
namespace Go.Proofs.YtkaipknkjocfiaaGreat
open Go.RowKit
theorem dP(a b:Bool)(r k:Nat)(hr:r≠0)(s:Nat × Nat):aZ b r k (aZ a r k s)=aZ (a&&b) r k s:=by
 unfold aZ;cases a<;>cases b<;>by_cases h:s.1=0<;>simp [h,hr]
def maskN(g:Gs):Nat:=g.gX.toNat
def AY(b:Bd)(x:Cf)(g:Nat):Bool:=match x.gs[g]? with
 |none=>true
 |some t=>(!(maskN t==0)&&decide (maskN t/2^b.gX.toNat=0))&&(List.range g).all fun i=>maskN t&&&maskN (x.gs[i]?.getD t)==0
theorem bn(f:Nat->Bool)(k:Nat):(List.range (k+1)).all f=((List.range k).all f&&f k):=by rw [List.range_succ,List.all_append];simp
theorem Y9(x:Cf)(a c:Value)(b:Bd)(p B g:Nat)(s:Nat × Nat)(hg:g<x.gs.length)(w:World)(hx:Ai w B x a c)(hB:B<=p)(hb:Aj x)(hc:0<=b.gX/\ b.gX<=32)(hN:x.gs.length<=20)
  (h:aU w p 75 12 (gu b x.ver a c s)):
  Calls Tryz.prog 26 #[.pointer (some ⟨p,0,none⟩),.int .i64 (g:Int)] w fun e w'=>e= .returned (.tuple #[])/\ aU w' p 75 12 (gu b x.ver a c (aZ (AY b x g) 3 g s))/\ Save p w w':=by
 obtain⟨A,d,A2,d2,rfl,rfl,-,hgu⟩:=EL hx;have hBw:B<=w.heap.size:=aA hB (Nat.le_of_lt h.lt);have HGU:Hid (∀k (hk:k<x.gs.length),∃ (a0 q:Addr),A=some a0/\ a0.add (k*79)=q/\ ∀Y,Save p w Y->Y.cell? ⟨q.block,q.off+4,none⟩=some (.int .u32 ((maskN x.gs[k]:Nat):Int))/\ maskN x.gs[k]<4294967296):=ah fun k hk=>by
  obtain⟨a0,q,A1,e1,A2,e2,A3,e3,A4,e4,h1,h2,h3⟩:=hgu k hk;refine⟨a0,q,h1,h2,fun Y hY=> ?_⟩;have hm:=(hb.gs _ (ay hk)).gX;unfold rP at hm;have he:((maskN x.gs[k]:Nat):Int)=(x.gs[k]).gX:=(by unfold maskN;omega);refine⟨by rw [he];exact(h3 Y (hY.below hB hBw)).gX,by unfold maskN;omega⟩
 obtain⟨a0,q,rfl,hq,hz⟩:=HGU.out g hg;obtain⟨N,hNN⟩:=aqx (x.gs.length);obtain⟨M,hMM⟩:=aqx (x.dH.length);obtain⟨cb,hcb⟩:=au hc.1;obtain⟨m,hm⟩:=aqx (maskN x.gs[g]);rw [<-hm]at hz;have hmb:=(hz w (aI _ _)).2;obtain⟨f,hf⟩:∃f:Nat->Bool,f=fun i=>(m&&&maskN (x.gs[i]?.getD x.gs[g])==0):=⟨_,rfl⟩;obtain⟨z,hz0⟩:∃z:Bool,z=(m==0):=⟨_,rfl⟩;obtain⟨y,hy0⟩:∃y:Bool,y=decide (m/2^cb=0):=⟨_,rfl⟩;have hP:AY b x g=((!z&&y)&&(List.range g).all f):=by
  unfold AY;rw [aF hg,hz0,hy0,hf,hm,hcb]
  rfl
 rw [hP];have zm:((m:Int)==0)=z:=(by rw [hz0];exact Bool.eq_iff_iff.2 (by simp));have zn:((m:Int) !=0)= !z:=(by rw [<-zm];rfl);have ym:((m:Int)/2^cb==0)=y:=(by rw [hy0];exact Bool.eq_iff_iff.2 (by simp only [beq_iff_eq,decide_eq_true_eq];norm_cast));have hwm:IntKind.u64.wrap (m:Int)=(m:Int):=(by simp [IntKind.wrap,IntKind.bits,IntKind.signed];omega);have hmin:min cb 64=cb:=(by omega);obtain⟨C,hC⟩:=aqx ((Value.slice (some a0) x.gs.length d));obtain⟨D,hD⟩:=aqx ((Value.slice A2 x.dH.length d2));rw [<-hC, <-hD]at h⊢;have HCE:Hid (∀Y t,aU Y p 75 12 (gu b x.ver C D t)->Y.cell? ⟨p,8,none⟩=some (.slice (some a0) N d)/\ Y.cell? ⟨p,6,none⟩=some (.int .i64 (cb:Int))):=ah fun Y t hY=>
  ⟨by rw [hNN, <-hC];exact hY.cell (i:=8) (by decide),(hY.cell (i:=6) (by decide)).trans (congrArg some (show Value.int .i64 b.gX=_ by rw [hcb]))⟩
 have HM:Hid (∀is t W,aU W p 75 12 (gu b x.ver C D t)->Calls Tryz.prog 23 #[.pointer (some ⟨p,0,none⟩),.bool is,.int .i64 3,.int .i64 (g:Int)] W fun e w'=>e= .returned (.tuple #[])/\ aU w' p 75 12 (gu b x.ver C D (aZ is 3 g t))/\ Save p W w'):=ah (fun is t W hW=>vM is 3 g p b x.ver C D t W hW);have HK:Hid (∀k,k<g->∃q1 m1,a0.add (k*79)=q1/\ (∀Y,Save p w Y->Y.cell? ⟨q1.block,q1.off+4,none⟩=some (.int .u32 ((m1:Nat):Int)))/\ m1<4294967296/\ f k=(m&&&m1==0)):=ah fun k hk=>by
  obtain⟨b0,q1,e1,h1,h2⟩:=HGU.out k (by omega);obtain rfl:=Option.some.inj e1;refine⟨q1,maskN x.gs[k],h1,fun Y hY=>(h2 Y hY).1,(h2 w (aI _ _)).2, ?_⟩;rw [hf];show(m&&&maskN ((x.gs[k]?).getD x.gs[g])==0)=_
  rw [aF (show k<x.gs.length by omega)]
  rfl
 have hgN:g<N:=(by omega);have hgi:(g:Int)< (N:Int):=(by omega);have aio:N<=20:=(by omega);have HZ:=ah hz;have HA:=ah h;have HF:Hid ((!z&&y)=(!z&&y)):=ah rfl;obtain⟨c8,c6⟩:=HCE.out w s h;have z4:=(hz w (aI _ _)).1;clear hgu hx hz h hB hBw hb hc hN HGU hNN hMM hcb hm hf hz0 hy0 hP hC hD hg;go_enter Tryz.func26,Tryz.ntmps26;go_upto_region 2 with(go_at_call 23;refine(HM.out _ _ _ HA.out).mono ?_;rintro e w1 ⟨rfl,ha1,hs1⟩;have HA1:=ah (ak ha1 hs1);clear ha1 hs1)
 obtain⟨-,c6⟩:=HCE.out w1 _ HA1.out.1;go_upto_region 3 with(go_at_call 23;refine(HM.out _ _ _ HA1.out.1).mono ?_;rintro e w2 ⟨rfl,ha1,hs1⟩;have HA2:=ah (ak ha1 (HA1.out.2.trans hs1));clear ha1 hs1)
 rw [dP _ _ _ _ (by decide)]at HA2;go_wp2_with fail
 clear c6 c8 z4;go_loopw [5] (fun v W=>∃k:Nat,k<=g/\ v= .int .i64 k/\ Hid (aU W p 75 12 (gu b x.ver C D (aZ ((!z&&y)&&(List.range k).all f) 3 g s))/\ Save p w W)) (fun v _=>g-(intOf v).toNat)
 case atStart=>exact⟨0,aB _,rfl,by simpa using HA2⟩
 case round=>
  obtain⟨k,hk,rfl,HR⟩:=hrel;by_cases hlt:k<g
  · obtain⟨q1,m1,hq1,hc1,hm1,hf1⟩:=HK.out k hlt
    have hki:(k:Int)< (g:Int):=(by omega);have hkN:(k:Int)< (N:Int):=(by omega);have apu:k<N:=(by omega);obtain⟨c8,-⟩:=HCE.out wr _ HR.out.1;have z4:=hc1 wr HR.out.2;have hand:bits .and .u32 (m:Int) (m1:Int)=((m&&&m1:Nat):Int):=u32_and_nat m m1 hmb hm1;have hfz:(((m&&&m1:Nat):Int)==0)=f k:=(by rw [hf1];exact Bool.eq_iff_iff.2 (by simp only [beq_iff_eq];norm_cast));have HF1:=ah hf1;clear hf1 hc1;go_wp2_with(go_at_call 23;refine(HM.out _ _ _ HR.out.1).mono ?_;rintro e w3 ⟨rfl,ha1,hs1⟩;have wz:=ah (ak ha1 (HR.out.2.trans hs1));clear ha1 hs1)
    rw [dP _ _ _ _ (by decide)]at wz;go_roundw
    case rel=>exact⟨k+1,by omega,by go_num,by rw [bn, <-Bool.and_assoc];exact wz⟩
    case measure=>simp [intOf];omega
  · obtain rfl:k=g:=by omega
    go_wp2_with fail
    go_end0;exact⟨rfl,HR.out⟩
open Go.RowKit
attribute [local go_sem ↓ high] jo
def rU(s:Sp)(l:List Sp):Bool:=l.any (overlap s)
theorem Zm{s:Sp}{l:List Sp}(h:∀j (hj:j<l.length),overlap s l[j]=false):rU s l=false:=by
 unfold rU;rw [<-Bool.not_eq_true,List.any_eq_true];rintro⟨y,hy,hb⟩;obtain⟨j,hj,rfl⟩:=List.getElem_of_mem hy;rw [h j hj]at hb;cases hb
theorem VJ{s:Sp}{l:List Sp}{j:Nat}(hj:j<l.length)(h:overlap s l[j]=true):rU s l=true:=List.any_eq_true.2 ⟨_,ay hj,h⟩
theorem KH(s:Sp)(hs:fit s)(l:List Sp)(hl:l.length<=1000000)(hf:∀x∈l,fit x)(A:Option Addr)(cap:Nat)(w:World)(hR:bI 2 bQ w w.heap.size A l):
  Calls Tryz.prog 66 #[.agg (vec 2 (bQ s)),.slice A l.length cap] w (jc (rU s l) w):=by
 obtain⟨q0,hq0⟩:=aqx (w.heap.size);obtain⟨V,hV⟩:=aqx (w.alloc (.cells (vec 2 (bQ s)) 24));have k1:aU V q0 24 2 (bQ s):=(by rw [hV,hq0];exact aU.new w _ _ _);have hB:Below w.heap.size w V:=(by rw [hV];exact(aC _ _).alloc (aj _) _);obtain⟨N,hN⟩:=aqx (l.length);have hNb:N<=1000000:=(by omega);have HG:=ah (fun Y (hY:Below V.heap.size V Y)=>(hR.up hB).up hY);have HW:=ah hV;have HQ:=ah hq0;have HB0:=ah hB;have HK:=ah k1;have HN:=ah hN;have Kq:=ah (fun k (hk:k<l.length) W=>qM s l[k] hs (hf _ (ay hk)) W);obtain⟨r,hr⟩:=aqx (rU s l);have qR:=ah (fun h=>hr.trans (Zm (s:=s) (l:=l) h));have je:=ah (fun j hj h=>hr.trans (VJ (s:=s) (l:=l) (j:=j) hj h));rw [<-hN, <-hr];unfold jc at Kq⊢;clear hR hV hq0 hB k1 hN hr hl;go_enter Tryz.func66,Tryz.ntmps66;go_upto_region 1 with fail
 rw [<-HW.out, <-HQ.out];clear HW;go_wp2_with fail
 go_loopw [9] (fun v W=>∃k:Nat,k<=N/\ v= .int .i64 k/\ Hid (∀j (hj:j<l.length),j<k->overlap s l[j]=false)/\ Hid (Below V.heap.size V W)) (fun v _=>N-(intOf v).toNat)
 case atStart=>exact⟨0,aB _,rfl,ah (fun j _ h=>by omega),ah (aC _ _)⟩
 case round=>
  obtain⟨k,hk,rfl,HP,HB⟩:=hrel;obtain⟨W,hW⟩:=aqx wr;subst hW;by_cases hlt0:k<N
  · have hlt:k<l.length:=by have:=HN.out;omega
    have g1:=HG.out W HB.out;obtain⟨b0,p,ea,hp,-,hcp⟩:=g1.at hlt;obtain⟨y,hy⟩:=aqx (l[k]);rw [<-hy]at hcp;have hki:(k:Int)< (N:Int):=(by omega);obtain⟨t,ht⟩:=aqx (W.heap.size);obtain⟨X,hX⟩:=aqx ((W.alloc (.cells (vec 2 (bQ (0,0))) 24)).setRow W.heap.size (vec 2 (bQ y)));have b1:Below W.heap.size W X:=(by rw [hX];exact bg ((aC _ _).alloc (aj _) _) (aj _) _);have a1:aU X t 24 2 (bQ y):=(by rw [hX,ht];exact(aU.new W _ _ _).row _);have fU:=ah (HB.out.trans (b1.mono HB.out.size));have HA1:=ah a1;have Vl:=ah (HK.out.under fU.out);have gI:=ah hcp;have HX:=ah hX;have HTT:=ah ht;have hov:=Kq.out k hlt;have hyes:=je.out k hlt;rw [<-hy]at hov hyes;have hpk:overlap s y=false->∀j (hj:j<l.length),j<k+1->overlap s l[j]=false:=fun h j hj hjk=>by
     rcases Nat.lt_or_ge j k with h1|h1
     · exact HP.out j hj h1
     · obtain rfl:j=k:=by omega
       rw [<-hy];exact h
    obtain⟨o,ho⟩:=aqx (overlap s y);rw [<-ho]at hov hyes hpk;have HV1:=ah (fun W=>hov W);have LV:=ah hyes;have OZ:=ah hpk;subst ea;clear g1 hcp hlt ht hX b1 a1 hy hov hyes hpk ho;go_upto_region 4 with(first
     |((with_reducible refine aqy (.load _ _) ?_);refine bC rfl 24 _ rfl p rfl _ (aW gI.out Tryz.underlying24 rfl bZ) ?_)
     |((with_reducible refine aqy (.store _ _ _) ?_);refine bD rfl 24 _ _ rfl _ rfl _ rfl (aS (aU.new W _ _ _) (bQ y) bZ (kP _ _)) ?_))
    rw [<-HX.out, <-HTT.out];clear HX gI HTT;cases o with
    |true=>
     go_wp2_with(first
       |((with_reducible refine aqz 13 (.load _ _) ?_);refine bM rfl 24 _ rfl q0 rfl _ (aQ Vl.out Tryz.underlying24 rfl bZ) ?_)
       |((with_reducible refine aqz 14 (.load _ _) ?_);refine bM rfl 24 _ rfl t rfl _ (aQ HA1.out Tryz.underlying24 rfl bZ) ?_)
       |(go_at_call 31;refine(HV1.out _).mono ?_;rintro e w1 ⟨rfl,hd⟩;have HD1:=ah hd;clear hd))
     go_ret;obtain rfl:r=true:=LV.out (by simp);exact⟨rfl,(HB0.out.trans (fU.out.mono HB0.out.size)).trans (HD1.out.mono (aA HB0.out.size fU.out.size))⟩
    |false=>
     have HP2:=ah (OZ.out (by simp));go_wp2_with(first
       |((with_reducible refine aqz 13 (.load _ _) ?_);refine bM rfl 24 _ rfl q0 rfl _ (aQ Vl.out Tryz.underlying24 rfl bZ) ?_)
       |((with_reducible refine aqz 14 (.load _ _) ?_);refine bM rfl 24 _ rfl t rfl _ (aQ HA1.out Tryz.underlying24 rfl bZ) ?_)
       |(go_at_call 31;refine(HV1.out _).mono ?_;rintro e w1 ⟨rfl,hd⟩;have HD1:=ah (fU.out.trans (hd.mono fU.out.size));clear hd))
     go_roundw
     case rel=>exact⟨k+1,by omega,by go_num,HP2,HD1⟩
     case measure=>simp [intOf];omega
  · obtain rfl:k=N:=by omega
    have HE:Hid (r=false):=ah (qR.out fun j hj=>HP.out j hj (by have:=HN.out;omega));go_wp2_with fail
    go_ret;obtain rfl:r=false:=HE.out;exact⟨rfl,HB0.out.trans (HB.out.mono HB0.out.size)⟩
def iD:List Sp->Bool
 | []=>false
 |x::t=>t.any (overlap x)||iD t
theorem kQ:∀l:List Sp,iD l=false↔l.Pairwise (fun x y=>overlap x y=false)
 | []=>by simp [iD]
 |x::t=>by
  rw [iD,Bool.or_eq_false_iff,List.pairwise_cons,kQ t,List.any_eq_false];simp only [Bool.not_eq_true]
def ql(l:List Sp)(i j:Nat):Bool:=overlap (l.getD i (0,0)) (l.getD j (0,0))
theorem uf{l:List Sp}{i j:Nat}(hi:i<l.length)(hj:j<l.length):ql l i j=overlap l[i] l[j]:=by simp [ql,hi,hj]
theorem vZ(l:List Sp):iD l=false↔∀i j,i<j->j<l.length->ql l i j=false:=by
 rw [kQ,List.pairwise_iff_getElem]
 constructor
 · intro h i j hij hj
   rw [uf (by omega) hj];exact h i j (by omega) hj hij
 · intro h i j hi hj hij
   rw [<-uf hi hj];exact h i j hij hj
def AX(l:List Sp)(i j:Nat)(b:Bool):Prop:=
 (b=true/\ i<j/\ j<l.length/\ ql l i j=true/\ (∀i' j',i'<j'->j'<j->ql l i' j'=false)/\ ∀i',i'<i->ql l i' j=false)∨
 (b=false/\ i=0/\ j=0/\ ∀i' j',i'<j'->j'<l.length->ql l i' j'=false)
theorem DZ{l:List Sp}{i j:Nat}{b:Bool}(h:AX l i j b):b=iD l:=by
 rcases h with⟨rfl,hij,hj,hh,-,-⟩|⟨rfl,-,-,hn⟩
 · cases hc:iD l with
   |true=>rfl
   |false=>
    rw [(vZ l).1 hc i j hij hj]at hh;cases hh
 · exact((vZ l).2 hn).symm
open Go.RowKit
theorem QI(A:Option Addr)(cap:Nat)(l:List Sp)(hl:l.length<=1000000)(hf:∀x∈l,fit x)(w:World)(hR:Row w w.heap.size A l):
  Calls Tryz.prog 65 #[.slice A l.length cap] w fun e w'=>∃ (i j:Nat) (b:Bool),e= .returned (.tuple #[.int .i64 i,.int .i64 j,.bool b])/\ AX l i j b/\ Below w.heap.size w w':=by
 have Hl:=ah hl;have Hf:=ah hf;have HR:=ah hR;clear hl hf hR;go_enter Tryz.func65,Tryz.ntmps65;go_wp2
 go_loopw [5] (fun i W=>∃k:Nat,k<=l.length/\ i= .int .i64 k/\ RowKit.Hid (∀i' j',i'<j'->j'<k->ql l i' j'=false)/\ Below w.heap.size w W) (fun i _=>l.length-(intOf i).toNat)
 case atStart=>exact⟨0,aB _,rfl,ah fun _ _ _ h=>absurd h (Nat.not_lt_zero _),aC _ _⟩
 case round=>
  obtain⟨k,hk,rfl,hno,hbel⟩:=hrel;have hb3:k+1<=1000001:=(by have:=Hl.out;omega);by_cases hlt:k<l.length
  · have acp:=ah hbel
    clear hbel;go_wp2
    go_loopw [6] (fun i W=>∃m:Nat,m<=k/\ i= .int .i64 m/\ RowKit.Hid (∀i',i'<m->ql l i' k=false)/\ Below w.heap.size w W) (fun i _=>k-(intOf i).toNat)
    case atStart=>exact⟨0,aB _,rfl,ah fun _ h=>absurd h (Nat.not_lt_zero _),acp.out⟩
    case round=>
     obtain⟨m,hm,rfl,aer,hbel⟩:=hrel;clear acp;by_cases hmk:m<k
     · have hml:m<l.length:=by omega
       obtain⟨a,p,rfl,hp,hpb,hc1,hc2⟩:=(HR.out.below hbel).at hml;obtain⟨a',q,ha,hq,XY,hc3,hc4⟩:=(HR.out.below hbel).at hlt;obtain rfl:a=a':=Option.some.inj ha;have hfit:=Hf.out _ (ay hml);have Gg:=Hf.out _ (ay hlt);have hhit:=uf hml hlt;obtain⟨x,hx⟩:∃x,l[m]=x:=⟨_,rfl⟩;obtain⟨y,hy⟩:∃y,l[k]=y:=⟨_,rfl⟩;rw [hx]at hc1 hc2 hfit hhit;rw [hy]at hc3 hc4 Gg hhit;obtain⟨b,s⟩:=x;obtain⟨c,d⟩:=y;have HX:=ah hx;have HY:=ah hy;have lK:=ah hbel;obtain⟨o,ho⟩:=aqx (ql l m k);have HO:=ah (show∀w,Calls Tryz.prog 31 #[.agg #[.int .u64 (b:Int),.int .u64 (s:Int)],.agg #[.int .u64 (c:Int),.int .u64 (d:Int)]] w fun e w'=>e= .returned (.bool o)/\ Below w.heap.size w w' from fun w=>by rw [ho,hhit];exact Bv b s c d hfit Gg w);have HH:=ah ho;clear hx hy hpb XY hbel hfit Gg hhit ha ho;go_wp2
       refine wp_region_held_drew (S:=fun W=>Below w.heap.size w W/\ W.cell? p=some (.int .u64 (b:Int))/\ W.cell? ⟨p.block,p.off+1,none⟩=some (.int .u64 (s:Int))/\ W.cell? q=some (.int .u64 (c:Int))/\ W.cell? ⟨q.block,q.off+1,none⟩=some (.int .u64 (d:Int))) (by kernel_rfl) (by exact⟨lK.out.drew,hc1,hc2,hc3,hc4⟩) (fun hS=> ?_);refine tA 0 ?_;refine tA 1 ?_;refine tA 2 ?_;refine tA 3 ?_;refine tA 4 ?_;refine tA 5 ?_;refine tA 6 ?_;refine tA 7 ?_;refine oQ 8 fun K8 hK8=> ?_;go_simp;refine(HO.out _).mono ?_;rintro e w1 ⟨rfl,hd⟩;refine hK8 _ _ (fV hd hS) (fun qw=> ?_);clear hS hd hK8 K8;refine wpAnyH_done (by kernel_rfl) ?_ _;have HS:=ah qw;clear qw;cases o
       · go_wp2
         go_roundw
         case rel=>
           refine⟨m+1,by omega,by go_num,ah fun i' hi'=> ?_,HS.out.1⟩;rcases Nat.lt_succ_iff_lt_or_eq.1 hi' with h|rfl
           · exact aer.out i' h
           · exact HH.out.symm
         case measure=>simp [intOf];omega
       · go_wp2
         go_ret3
         exact⟨m,k,true,rfl,.inl ⟨rfl,hmk,hlt,HH.out.symm,hno.out,aer.out⟩,HS.out.1⟩
     · obtain rfl:m=k:=by omega
       have lK:=ah hbel;clear hbel;go_wp2
       go_roundw
       case rel=>
         refine⟨m+1,by omega,by go_num,ah fun i' j' hij hj=> ?_,lK.out⟩;rcases Nat.lt_succ_iff_lt_or_eq.1 hj with h|rfl
         · exact hno.out i' j' hij h
         · exact aer.out i' hij
       case measure=>simp [intOf];omega
  · obtain rfl:k=l.length:=by omega
    have lK:=ah hbel;clear hbel;go_wp2
    go_ret3
    exact⟨0,0,false,rfl,.inr ⟨rfl,rfl,rfl,hno.out⟩,lK.out⟩
open Go.RowKit
attribute [local go_sem ↓ high] oU zq jo gZ
def xg(x:Wi):Sp:=(x.pa.toNat,x.size.toNat)
def BU(x:De):Sp:=(x.pa.toNat,x.size.toNat)
theorem qY(t:Gs):aci t=t.wins.map xg++t.dG.map BU:=rfl
theorem uX{α β:Type}(f:α->β)(l:List α)(k:Nat)(h:k<l.length):(l.take (k+1)).map f=(l.take k).map f++ [f l[k]]:=by
 rw [aO h,List.map_append];rfl
def gU(x:Cf)(g:Int):List Sp:=match nR x g with
 |none=>[]
 |some t=>aci t
theorem vW{x:Cf}{g:Int}(h:g<0∨(x.gs.length:Int)<=g):nR x g=none:=by
 unfold nR;by_cases h0:g<0
 · rw [if_pos h0]
 · rw [if_neg h0,List.getElem?_eq_none (by omega)]
theorem mJ{x:Cf}{i:Nat}(h:i<x.gs.length):nR x (i:Int)=some x.gs[i]:=by
 unfold nR;rw [if_neg (by omega),Int.toNat_natCast,aF h]
theorem VK(x:Cf)(a c:Value)(g:Int)(w:World)(hx:Ai w w.heap.size x a c)(hb:Aj x)(hf:qU x=true):Calls Tryz.prog 12 #[ji x a c,.int .i64 g] w (xP (gU x g) w):=by
 obtain⟨q0,hq0⟩:=aqx (w.heap.size);obtain⟨V,hV⟩:=aqx (w.alloc (.cells (vec 3 (eX x.ver a c)) 31));have k1:aU V q0 31 3 (eX x.ver a c):=(by rw [hV,hq0];exact aU.new w _ _ _);have hB:Below w.heap.size w V:=(by rw [hV];exact(aC _ _).alloc (aj _) _);obtain⟨hfg,hfc,hfa⟩:=iI hf;obtain⟨A,d,A2,d2,rfl,rfl,hch,hgu⟩:=xG (hx.up hB);obtain⟨x0,x1,x2⟩:=vF k1;obtain⟨N,hN⟩:=aqx (x.gs.length);obtain⟨M,hM⟩:=aqx (x.dH.length);unfold ji;rw [<-hN]at x1 hV⊢;rw [<-hM]at x2 hV⊢;rw [<-hN, <-hM]at k1;have hNb:N<=20:=(by rw [hN];exact hfg);have hMb:M<=40:=(by rw [hM];exact hfc);have HW:=ah hV;have HQ:=ah hq0;have HB0:=ah hB;have zh:Hid (∀Y,Below V.heap.size V Y->Y.cell? ⟨q0,1,none⟩=some (.slice A N d)/\ Y.cell? ⟨q0,2,none⟩=some (.slice A2 M d2)):=ah (fun Y hY=>by
   have h:=k1.under hY;exact⟨h.cell (i:=1) (by decide),h.cell (i:=2) (by decide)⟩)
 have bT:Hid (∀v W L,nM W V.heap.size v L->Below V.heap.size V W->xP L w (.returned v) W):=ah (fun v W L h1 h2=>⟨v,rfl,h1.low hB.size,hB.trans (h2.mono hB.size)⟩);by_cases hno:g<0∨(x.gs.length:Int)<=g
 · have hg0:gU x g=[]:=by unfold gU;rw [vW hno]
   rw [hg0];have HE:=ah (bT.out (.slice none 0 0) V [] (gW.nil _ _) (aC _ _));have y1:=(zh.out V (aC _ _)).1;rw [<-hN]at hno;clear hgu hch hV k1 hB hx hb hf hfg hfc hfa x0 x1 x2 hN hM hq0 hg0 bT zh;by_cases h0:g<0
   · clear hno
     go_enter Tryz.func12,Tryz.ntmps12;go_upto_region 1 with fail
     rw [<-HW.out, <-HQ.out];clear HW;go_wp2_with fail
     go_ret;exact HE.out
   · have h1:(N:Int)<=g:=by omega
     clear hno;go_enter Tryz.func12,Tryz.ntmps12;go_upto_region 1 with fail
     rw [<-HW.out, <-HQ.out];clear HW;go_wp2_with fail
     go_ret;exact HE.out
 · obtain⟨i,rfl⟩:=au (show 0<=g by omega)
   have hi:i<x.gs.length:=(by omega);have hpg:gU x (i:Int)=x.gs[i].wins.map xg++x.gs[i].dG.map BU:=by
     unfold gU;rw [mJ hi];exact qY _
   rw [hpg];obtain⟨a0,q,A1,e1,A3,e3,rfl,hq,hcell⟩:=hgu i hi;have hgb:=hb.gs _ (ay hi);have hfew:=jZ (hfa _ (ay hi));obtain⟨lw,hlw⟩:=aqx (x.gs[i].wins);obtain⟨ld,hld⟩:=aqx (x.gs[i].dG);have hwb:∀y∈lw,KW y:=(by rw [hlw];exact hgb.wins);have hdb:∀y∈ld,W9 y:=(by rw [hld];exact hgb.dG);have hwl:lw.length<=20:=(by rw [hlw];exact hfew.1);have hdl:ld.length<=20:=(by rw [hld];exact hfew.2.1);rw [<-hlw, <-hld]at hcell⊢;obtain⟨NW,KZ⟩:=aqx (lw.length);obtain⟨ND,RH⟩:=aqx (ld.length);have afl:NW<=20:=(by rw [KZ];exact hwl);have afm:ND<=20:=(by rw [RH];exact hdl);rw [<-KZ, <-RH]at hcell;have HG:=ah hcell;have HWB:=ah hwb;have La:=ah hdb;have RI:=ah KZ;have Z4:=ah RH;obtain⟨RES,aes⟩:=aqx (lw.map xg++ld.map BU);have Qu:=ah aes;rw [<-aes];have hiN:(i:Int)< (N:Int):=(by omega);have afo:i<N:=(by omega);have hi0:¬ (i:Int)<0:=(by omega);have hiG:¬ (N:Int)<=(i:Int):=(by omega);have y1:=(zh.out V (aC _ _)).1;obtain⟨⟨z1,z2⟩,-⟩:=hcell V (aC _ _);clear hgu hch hV k1 hB hx hb hf hfg hfc hfa x0 x1 x2 hN hM hq0 hno hpg hcell hgb hfew hlw hld hwb hdb hwl hdl KZ RH aes hi;go_enter Tryz.func12,Tryz.ntmps12;go_upto_region 1 with fail
   rw [<-HW.out, <-HQ.out];clear HW;go_upto_region 3 with fail
   clear hiG;go_wp2_with fail
   clear z1 z2;go_loopw [5,26] (fun s v W=>∃ (k e:Nat) (B:Option Addr),k<=NW/\ v= .int .i64 k/\ s= .slice B k e/\ Hid (nM W V.heap.size (.slice B k e) ((lw.take k).map xg))/\ Hid (Below V.heap.size V W)) (fun _ v _=>NW-(intOf v).toNat)
   case atStart=>exact⟨0,0,none,aB _,rfl,rfl,ah (gW.nil _ _),ah (aC _ _)⟩
   case round=>
     obtain⟨k,e,B,hk,rfl,rfl,HO,HB⟩:=hrel;obtain⟨W,hW⟩:=aqx wr;subst hW;by_cases hlt0:k<NW
     · have hlt:k<lw.length:=by have:=RI.out;omega
       have g1:=(HG.out W HB.out).2.1;have hcl:=HG.out W HB.out;obtain⟨b0,p,ea,hp,-,hcp⟩:=g1.at hlt;obtain⟨y,hy⟩:=aqx (lw[k]);rw [<-hy]at hcp;have hyb:=HWB.out y (by rw [hy];exact ay _);obtain⟨pn,hpn⟩:=au hyb.2.1.1;obtain⟨sn,hsn⟩:=au hyb.2.2.1.1;have hsp:xg y=(pn,sn):=(by unfold xg;rw [hpn,hsn];rfl);have OG:Hid ((lw.take (k+1)).map xg=((lw.take k).map xg)++ [(pn,sn)]):=ah (by rw [uX xg lw k hlt, <-hy,hsp];try rw [List.append_assoc]);have hki:(k:Int)< (NW:Int):=(by omega);obtain⟨r,hr⟩:=aqx (W.heap.size);obtain⟨X,hX⟩:=aqx ((W.alloc (.cells (vec 4 (bG JJ)) 67)).setRow W.heap.size (vec 4 (bG y)));have b1:Below W.heap.size W X:=(by rw [hX];exact bg ((aC _ _).alloc (aj _) _) (aj _) _);have a1:aU X r 67 4 (bG y):=(by rw [hX,hr];exact(aU.new W _ _ _).row _);have fU:=ah (HB.out.trans (b1.mono HB.out.size));have HOX:=ah (gW.on HO.out b1 (aj _));have HLEN:Hid (((lw.take k).map xg).length=k):=ah (by rw [List.length_map,List.length_take];omega);have gI:=ah hcp;have HX:=ah hX;have HRR:=ah hr;have c1:X.cell? ⟨r,1,none⟩=some (.int .u64 (pn:Int)):=(by rw [<-hpn];exact a1.cell (i:=1) (by decide));have c2:X.cell? ⟨r,2,none⟩=some (.int .u64 (sn:Int)):=(by rw [<-hsn];exact a1.cell (i:=2) (by decide));subst ea;obtain⟨B4,e4,w4,hrun,DW,hb4⟩:=OC (pn,sn) HOX.out fU.out.size (by rw [HLEN.out];omega);rw [HLEN.out, <-OG.out]at DW;rw [HLEN.out]at hrun;have hbs:=oV (pn,sn) X;have HO4:=ah DW;have HB4:=ah (fU.out.trans hb4);clear g1 hcl hcp hlt hr hX b1 a1 hyb hy hpn hsn hsp DW hb4 OG;go_upto_region 7 with(first
        |((with_reducible refine aqy (.load _ _) ?_);refine bC rfl 67 _ rfl p rfl _ (aW gI.out Tryz.underlying67 rfl gQ) ?_)
        |((with_reducible refine aqy (.store _ _ _) ?_);refine bD rfl 67 _ _ rfl _ rfl _ rfl (aS (aU.new W _ _ _) (bG y) gQ (mZ _ _)) ?_))
       rw [<-HX.out, <-HRR.out];clear HX gI HRR;go_wp2_with(first
        |((with_reducible refine aqy (.build _ _) ?_);refine dh rfl 24 _ rfl (vec 2 (bQ (pn,sn))) (by kernel_rfl) ?_)
        |((with_reducible refine aqy (.buildSlice _ _ _) ?_);refine uP rfl _ rfl (.agg (vec 2 (bQ (pn,sn)))) rfl hbs ?_))
       go_roundw
       case rel=>exact⟨k+1,e4,B4,by omega,by go_num,rfl,HO4,HB4⟩
       case measure=>simp [intOf];omega
     · obtain rfl:k=NW:=by omega
       clear hlt0;obtain⟨⟨z1,z2⟩,-⟩:=HG.out W HB.out;have y1:=(zh.out W HB.out).1;go_wp2_with fail
       clear z1 z2 y1;obtain⟨PW,hPW⟩:=aqx (lw.map xg);have HOW:Hid (nM W V.heap.size (.slice B k e) PW):=ah (by rw [hPW];have h:=HO.out;rw [RI.out,List.take_length]at h;rw [RI.out];exact h);have HR2:Hid (RES=PW++ld.map BU):=ah (by rw [hPW];exact Qu.out);have SI:Hid (PW.length=k):=ah (by rw [hPW,List.length_map];exact RI.out.symm);clear hPW HO;go_loopw [5,46] (fun s v Y=>∃ (m e2:Nat) (B3:Option Addr),m<=ND/\ v= .int .i64 m/\ s= .slice B3 (k+m) e2/\ Hid (nM Y V.heap.size (.slice B3 (k+m) e2) (PW++(ld.take m).map BU))/\ Hid (Below V.heap.size V Y)) (fun _ v _=>ND-(intOf v).toNat)
       case atStart=>exact⟨0,e,B,aB _,rfl,rfl,ah (by rw [List.take_zero,List.map_nil,List.append_nil];exact HOW.out),HB⟩
       case round=>
        obtain⟨m,e2,B3,hm,rfl,rfl,HO,HB⟩:=hrel;obtain⟨Y,hY⟩:=aqx wr;subst hY;by_cases hlt0:m<ND
        · have hlt:m<ld.length:=by have:=Z4.out;omega
          have g1:=(HG.out Y HB.out).2.2;have hcl:=HG.out Y HB.out;obtain⟨b0,p,ea,hp,-,hcp⟩:=g1.at hlt;obtain⟨y,hy⟩:=aqx (ld[m]);rw [<-hy]at hcp;have hyb:=La.out y (by rw [hy];exact ay _);obtain⟨pn,hpn⟩:=au hyb.2.1.1;obtain⟨sn,hsn⟩:=au hyb.2.2.1;have hsp:BU y=(pn,sn):=(by unfold BU;rw [hpn,hsn];rfl);have OG:Hid (PW++(ld.take (m+1)).map BU=(PW++(ld.take m).map BU)++ [(pn,sn)]):=ah (by rw [uX BU ld m hlt, <-hy,hsp];try rw [List.append_assoc]);have hki:(m:Int)< (ND:Int):=(by omega);obtain⟨r,hr⟩:=aqx (Y.heap.size);obtain⟨X,hX⟩:=aqx ((Y.alloc (.cells (vec 3 (iC zDe)) 83)).setRow Y.heap.size (vec 3 (iC y)));have b1:Below Y.heap.size Y X:=(by rw [hX];exact bg ((aC _ _).alloc (aj _) _) (aj _) _);have a1:aU X r 83 3 (iC y):=(by rw [hX,hr];exact(aU.new Y _ _ _).row _);have fU:=ah (HB.out.trans (b1.mono HB.out.size));have HOX:=ah (gW.on HO.out b1 (aj _));have HLEN:Hid ((PW++(ld.take m).map BU).length=k+m):=ah (by rw [List.length_append,List.length_map,List.length_take,SI.out];omega);have gI:=ah hcp;have HX:=ah hX;have HRR:=ah hr;have c1:X.cell? ⟨r,1,none⟩=some (.int .u64 (pn:Int)):=(by rw [<-hpn];exact a1.cell (i:=1) (by decide));have c2:X.cell? ⟨r,2,none⟩=some (.int .u64 (sn:Int)):=(by rw [<-hsn];exact a1.cell (i:=2) (by decide));subst ea;obtain⟨B4,e4,w4,hrun,DW,hb4⟩:=OC (pn,sn) HOX.out fU.out.size (by rw [HLEN.out];omega);rw [HLEN.out, <-OG.out]at DW;rw [HLEN.out]at hrun;have hbs:=oV (pn,sn) X;have HO4:=ah DW;have HB4:=ah (fU.out.trans hb4);clear g1 hcl hcp hlt hr hX b1 a1 hyb hy hpn hsn hsp DW hb4 OG;go_upto_region 12 with(first
           |((with_reducible refine aqy (.load _ _) ?_);refine bC rfl 83 _ rfl p rfl _ (aW gI.out Tryz.underlying83 rfl qG) ?_)
           |((with_reducible refine aqy (.store _ _ _) ?_);refine bD rfl 83 _ _ rfl _ rfl _ rfl (aS (aU.new Y _ _ _) (iC y) qG (xC _ _)) ?_))
          rw [<-HX.out, <-HRR.out];clear HX gI HRR;go_wp2_with(first
           |((with_reducible refine aqy (.build _ _) ?_);refine dh rfl 24 _ rfl (vec 2 (bQ (pn,sn))) (by kernel_rfl) ?_)
           |((with_reducible refine aqy (.buildSlice _ _ _) ?_);refine uP rfl _ rfl (.agg (vec 2 (bQ (pn,sn)))) rfl hbs ?_))
          go_roundw
          case rel=>exact⟨m+1,e4,B4,by omega,by go_num,rfl,HO4,HB4⟩
          case measure=>simp [intOf];omega
        · obtain rfl:m=ND:=by omega
          clear hlt0;have HO2:Hid (nM Y V.heap.size (.slice B3 (k+m) e2) RES):=ah (by have h:=HO.out;rw [Z4.out,List.take_length]at h;rw [HR2.out,Z4.out];exact h);clear HO;go_wp2_with fail
          go_ret;exact bT.out _ _ _ HO2.out HB.out
open Go.RowKit
attribute [local go_sem ↓ high] sW jo gZ
def J4(c:Ch):Sp:=(c.pa.toNat,c.size.toNat)
open Go.RowKit
abbrev qL(w:World)(base:Nat)(v:Value)(l:List Mp):Prop:=gW 87 5 kK w base v l
theorem xQ:(Tryz.prog.info? 87).map (fun i=>(i.zero,i.size,i.bytes))=some (some (.agg (vec 5 (kK zMp))),5,40):=by kernel_rfl
theorem yA(x:Mp)(w:World):(Instr.buildSlice 48 1 #[(0,.agg (vec 5 (kK x)))]).run Tryz.prog w= .ok (.slice (some ⟨w.heap.size,0,none⟩) 1 1) (w.alloc (.cells (vec 5 (kK x)) 87)):=by
 obtain⟨i0,hi,hz0,hz1,hz2⟩:=info_parts xQ;refine run_buildSlice (P:=Tryz.prog) w 48 87 1 _ _ i0 (.agg (vec 5 (kK zMp))) Tryz.underlying48 hi hz0 (by rw [hz1];decide) (by rw [hz1];decide) ?_;rw [hz1]
 kernel_rfl
theorem TF(x:Mp)(w:World):qL (w.alloc (.cells (vec 5 (kK x)) 87)) w.heap.size (.slice (some ⟨w.heap.size,0,none⟩) 1 1) [x]:=by
 have h:=World.ownsRow_lit (base:=w.heap.size) (e:=87) (size:=5) w (vec 5 (kK x)) 1 (aj _) (by decide) (by rw [iR]);unfold qL gW;have e:(vec 5 (kK x)).toList=cellsE 5 kK [x]:=(by rw [Ru];simp [cellsE]);rw [e]at h;exact h
theorem bI.flat{w:World}{B:Nat}{a:Addr}{l:List Mp}(h:bI 5 kK w B (some a) l)(hne:l≠ []):∀j u,(cellsE 5 kK l)[j]?=some u->w.cell? (a.add j)=some u:=by
 intro j u hu;obtain⟨a',e,-,hc⟩:=h hne;injection e with e
 subst e;have hl:j<l.length*5:=by
  have:=(List.getElem?_eq_some_iff.1 hu).1
  rwa [jw]at this
 have h1:j/5<l.length:=(by omega);have h2:=nT (n:=5) (enc:=kK) l (j/5) h1 (j% 5) (by omega);rw [show j/5*5+j% 5=j by omega]at h2;have h3:=hc (j/5) h1 (j% 5) (by omega);rw [show j/5*5+j% 5=j by omega]at h3;rw [h3];exact h2.symm.trans hu
theorem Dn{o:Oper}{a:Act}{w w':World}{K:Act->World->Prop}{Q:Exit->Act->World->Prop}(t:TypeId)(x:Operand)(ho:o.op= .buildSlice t 1 #[(0,x)])(v0:Value)(hy:a.eval x=v0){v:Value}(hr:(Instr.buildSlice t 1 #[(0,v0)]).run Tryz.prog w= .ok v w')(h:K (a.put o.dst v) w'):o.wp Tryz.prog a w K Q:=by
 unfold Oper.wp execOp;subst hy;simp only [ho,Sem.run_bind,List.map_toArray,List.map_cons,List.map_nil,hr,Result.andThen_ok,Sem.run_pure];exact h
theorem wB{P:Program}{w w':World}{o:Oper}{a:Act}{K:Act->World->Prop}{Q:Exit->Act->World->Prop}(s x:Operand)(t:TypeId)(ho:o.op= .call { callee:= .builtin .append,args:= #[s,x],argTypes:= #[t,t] })(v u:Value)(hs:a.eval s=v)(hx:a.eval x=u){v':Value}
  (hr:(Builtin.append_ #[t,t] o.type #[v,u]).run P w= .ok v' w') (h:K (a.put o.dst v') w'):o.wp P a w K Q:=by
 unfold Oper.wp execOp;simp only [ho,resolve,invoke,builtin,Sem.run_bind,Sem.run_pure,Result.andThen_ok,List.map_toArray,List.map_cons,List.map_nil,hs,hx,hr];exact h
theorem OH{w:World}{base:Nat}{v:Value}{l k:List Mp}{a:Addr}{c B:Nat}(hown:qL w base v l)(hb:base<=w.heap.size)(hl:l.length<=100000)(hk:k.length<=100000)(hr:bI 5 kK w B (some a) k)(ty:TypeId):
   ∃v' w',(Builtin.append_ #[48,48] ty #[v,.slice (some a) k.length c]).run Tryz.prog w= .ok v' w'/\ qL w' base v' (l++k)/\ Below base w w':=by
 obtain⟨i0,hi,hz0,hz1,hz2⟩:=info_parts xQ;obtain⟨v',w',hrun,h2,h3,-,-⟩:=run_append_own_at (P:=Tryz.prog) w base 48 ty 87 i0 (.agg (vec 5 (kK zMp))) 5 40 Tryz.underlying48 hi hz0 hz1 hz2 (iR _ _) (by decide) v l.length (cellsE 5 kK l) hown a k.length c (cellsE 5 kK k) (jw _) (fun j u hu=>by
   by_cases hne:k=[]
   · subst hne;cases hu
   · exact hr.flat hne j u hu) (ET (fun x i hi=>Aq x 5 i hi) k) (by unfold maxLen;omega) (by omega) hb
 refine⟨v',w',hrun, ?_,(aC _ _).grown h3 hb fun g hg=> ?_⟩
 · unfold qL gW
   rw [oJ,List.length_append];exact h2
 · obtain⟨_,_,_,_,_,hq⟩:=hown.form
   exact(hq g hg).1
theorem Zn{w:World}{l k:List Mp}{b a:Addr}{c B B2:Nat}(hl:l.length<=100000)(hk:k.length<=100000)(hk0:k≠ [])(h1:bI 5 kK w B (some b) l)(hr:bI 5 kK w B2 (some a) k)(ty:TypeId):
  ∃v' w',(Builtin.append_ #[48,48] ty #[.slice (some b) l.length l.length,.slice (some a) k.length c]).run Tryz.prog w= .ok v' w'/\ qL w' w.heap.size v' (l++k)/\ Below w.heap.size w w':=by
 obtain⟨i0,hi,hz0,hz1,hz2⟩:=info_parts xQ;have hkl:0<k.length:=List.length_pos_iff.2 hk0;obtain⟨v',w',hrun,h2,h3⟩:=run_append_arg_grows (P:=Tryz.prog) w 48 ty 87 i0 (.agg (vec 5 (kK zMp))) 5 40 Tryz.underlying48 hi hz0 hz1 hz2 (iR _ _) (by decide) b l.length l.length (cellsE 5 kK l) (jw _) (fun j u hu=>by
  by_cases hne:l=[]
  · subst hne;cases hu
  · exact h1.flat hne j u hu) a k.length c (cellsE 5 kK k) (jw _) (hr.flat hk0) (by omega) (by unfold maxLen;omega) (by omega)
 refine⟨v',w',hrun, ?_,(aC _ _).grown h3 (aj _) fun g hg=>by cases hg⟩;unfold qL gW;rw [oJ,List.length_append];exact h2
open Go.RowKit
attribute [local go_sem ↓ high] zC
theorem aeu{l:List Mp}{x:Mp}{k:Nat}(hk:k<=l.length)(h1:∀j (hj:j<l.length),j<k->l[j].fZ<=x.fZ)(h2:∀ (hj:k<l.length),¬l[k].fZ<=x.fZ):iy l x=l.take k++x::l.drop k:=by
 unfold iy;have hT:∀y∈l.take k,(fun y:Mp=>decide (y.fZ<=x.fZ)) y=true:=fun y hy=>by
  obtain⟨j,hj,rfl⟩:=List.mem_iff_getElem.1 hy;rw [List.length_take]at hj;rw [List.getElem_take];exact decide_eq_true (h1 j (by omega) (by omega))
 have hD:(l.drop k).takeWhile (fun y:Mp=>decide (y.fZ<=x.fZ))=[]/\ (l.drop k).dropWhile (fun y:Mp=>decide (y.fZ<=x.fZ))=l.drop k:=by
  by_cases hlt:k<l.length
  · rw [List.drop_eq_getElem_cons hlt,List.takeWhile_cons,List.dropWhile_cons]
    have:decide (l[k].fZ<=x.fZ)=false:=decide_eq_false (h2 hlt);rw [this];exact⟨rfl,rfl⟩
  · rw [List.drop_eq_nil_of_le (by omega)];exact⟨rfl,rfl⟩
 have e:=List.take_append_drop k l;have e1:l.takeWhile (fun y:Mp=>decide (y.fZ<=x.fZ))=l.take k:=by
  conv=>lhs;rw [<-e]
  rw [List.takeWhile_append_of_pos hT,hD.1,List.append_nil]
 have e2:l.dropWhile (fun y:Mp=>decide (y.fZ<=x.fZ))=l.drop k:=by
  conv=>lhs;rw [<-e]
  rw [List.dropWhile_append_of_pos hT,hD.2]
 rw [e1,e2]
theorem bI.take{w:World}{B:Nat}{a:Addr}{l:List Mp}(h:bI 5 kK w B (some a) l)(k:Nat):bI 5 kK w B (some a) (l.take k):=fun hne=>by
 have hl:l≠ []:=(fun e=>hne (by rw [e];exact List.take_nil));obtain⟨a',e,hb,hc⟩:=h hl;refine⟨a',e,hb,fun j hj i hi=> ?_⟩;rw [List.length_take]at hj;rw [List.getElem_take];exact hc j (by omega) i hi
def QJ(a:Addr)(c k:Nat):Addr:=if c=k then a else a.add (k*5)
theorem bI.drop{w:World}{B:Nat}{a:Addr}{l:List Mp}{c k:Nat}(h:bI 5 kK w B (some a) l)(hc:l.length<=c):bI 5 kK w B (some (QJ a c k)) (l.drop k):=fun hne=>by
 have hkl:k<l.length:=by
  by_cases hh:k<l.length
  · exact hh
  · exact absurd (List.drop_eq_nil_of_le (by omega)) hne
 obtain⟨a',e,hb,hcc⟩:=h (fun e=>by rw [e]at hkl;cases hkl);injection e with e
 subst e;unfold QJ;rw [if_neg (by omega)];refine⟨_,rfl,by rw [dA];exact hb,fun j hj i hi=> ?_⟩;rw [List.length_drop]at hj;rw [addr_add_add,List.getElem_drop];have:=hcc (k+j) (by omega) i hi;rw [show k*5+(j*5+i)=(k+j)*5+i by omega];exact this
theorem qP:Tryz.prog.underlying 48=some (.slice (Tryz.prog.elem 48)):=by kernel_rfl
theorem BM(W:World):(sizeOf (Tryz.prog.elem 48)).run Tryz.prog W= .ok 5 W:=by kernel_rfl
theorem JB(a:Addr)(N c k:Nat)(hk:k<=N)(W:World):(Instr.sliceAt 48 (.slice (some a) N c) (some (.int .i64 (k:Int))) none none).run Tryz.prog W= .ok (.slice (some (QJ a c k)) (N-k) (c-k)) W:=by
 rw [run_sliceAt_slice W _ _ _ _ _ qP,run_slice_l W _ _ _ _ qP .i64 (k:Int) (by omega) (by omega),BM];simp only [Result.andThen_ok,sliced,Int.toNat_natCast];unfold QJ;by_cases h:c=k
 · rw [if_pos h,if_pos h]
 · rw [if_neg h,if_neg h];rfl
theorem JC(a:Addr)(N c k:Nat)(hk:k<=N)(hc:N<=c)(W:World):(Instr.sliceAt 48 (.slice (some a) N c) none (some (.int .i64 (k:Int))) (some (.int .i64 (k:Int)))).run Tryz.prog W= .ok (.slice (some a) k k) W:=by
 rw [run_sliceAt_slice W _ _ _ _ _ qP,run_slice_hm W _ _ _ _ qP .i64 .i64 (k:Int) (k:Int) (by omega) (by omega) (by omega),BM];simp [Result.andThen_ok,sliced,Addr.add]
theorem KI{P:Program}{w:World}{o:Oper}{a:Act}(t:TypeId)(x lo:Operand)(ho:o.op= .slice t x (some lo) none none)(vx vl:Value)(hx:a.eval x=vx)(hl:a.eval lo=vl){v:Value}(hr:(Instr.sliceAt t vx (some vl) none none).run P w= .ok v w):
  (execOp a.eval o).run P w= .ok (.value v) w:=by
 unfold execOp;simp only [ho,Option.map_none,Option.map_some,hx,hl,Sem.run_bind,hr,Result.andThen_ok,Sem.run_pure]
theorem He{P:Program}{w:World}{o:Oper}{a:Act}(t:TypeId)(x hi mx:Operand)(ho:o.op= .slice t x none (some hi) (some mx))(vx vh vm:Value)(hx:a.eval x=vx)(hh:a.eval hi=vh)(hm:a.eval mx=vm){v:Value}(hr:(Instr.sliceAt t vx none (some vh) (some vm)).run P w= .ok v w):
  (execOp a.eval o).run P w= .ok (.value v) w:=by
 unfold execOp;simp only [ho,Option.map_none,Option.map_some,hx,hh,hm,Sem.run_bind,hr,Result.andThen_ok,Sem.run_pure]
theorem Hg{l:List Mp}{a:Addr}{c k:Nat}(x:Mp)(X:World)(hr:bI 5 kK X X.heap.size (some a) l)(hc:l.length<=c)(hl:l.length<=1000)(hk:k<=l.length)(ty ty2:TypeId):∃a2 c2 w2 v3 w3,
  (Builtin.append_ #[48,48] ty #[.slice (some ⟨X.heap.size,0,none⟩) 1 1,.slice (some (QJ a c k)) (l.length-k) (c-k)]).run Tryz.prog (X.alloc (.cells (vec 5 (kK x)) 87))= .ok (.slice (some a2) (1+(l.length-k)) c2) w2/\
  (Builtin.append_ #[48,48] ty2 #[.slice (some a) k k,.slice (some a2) (1+(l.length-k)) c2]).run Tryz.prog w2= .ok v3 w3/\
  Below X.heap.size X (X.alloc (.cells (vec 5 (kK x)) 87))/\ Below X.heap.size X w2/\ Below X.heap.size X w3/\ qL w3 X.heap.size v3 (l.take k++x::l.drop k):=by
 have b1:Below X.heap.size X (X.alloc (.cells (vec 5 (kK x)) 87)):=(aC _ _).alloc (aj _) _;have hd:=(hr.below b1).drop (c:=c) (k:=k) hc;obtain⟨v2,w2,hrun2,ho2,hb2⟩:=OH (TF x X) b1.size (by simp) (by rw [List.length_drop];omega) hd (c:=c-k) ty;rw [List.length_drop]at hrun2;obtain⟨A2,c2,e2,-,hr2,-⟩:=ho2.form;obtain⟨a2,ea2,-,-⟩:=hr2 (by simp);subst ea2;have el:([x]++l.drop k).length=1+(l.length-k):=(by rw [List.length_append,List.length_drop];rfl);rw [el]at e2;subst e2;have b2:Below X.heap.size X w2:=b1.trans hb2;obtain⟨v3,w3,hrun3,ho3,hb3⟩:=Zn (l:=l.take k) (k:=[x]++l.drop k) (b:=a) (a:=a2) (c:=c2) (by rw [List.length_take];omega) (by rw [el];omega) (by simp) ((hr.below b2).take k) hr2 ty2;rw [List.length_take,Nat.min_eq_left hk,el]at hrun3;exact⟨a2,c2,w2,v3,w3,hrun2,hrun3,b1,b2,b2.trans (hb3.mono b2.size),by have:=ho3.low b2.size;exact this⟩
def QK(l:List Mp)(w:World)(e:Ending)(w':World):Prop:=∃v,e= .returned v/\ qL w' w.heap.size v l/\ Below w.heap.size w w'
theorem QL(l:List Mp)(a:Addr)(c:Nat)(x:Mp)(hc:l.length<=c)(hlen:l.length<=1000)(w:World)(hr:bI 5 kK w w.heap.size (some a) l):Calls Tryz.prog 32 #[.slice (some a) l.length c,.agg (vec 5 (kK x))] w (QK (iy l x) w):=by
 obtain⟨g0,hg0⟩:=aqx (w.heap.size);obtain⟨V,hV⟩:=aqx (w.alloc (.cells (vec 5 (kK x)) 87));have k0:aU V g0 87 5 (kK x):=(by rw [hV,hg0];exact aU.new w _ _ _);have hB:Below w.heap.size w V:=(by rw [hV];exact(aC _ _).alloc (aj _) _);obtain⟨N,hN⟩:=aqx (l.length);have Io:=ah hN;have HR:=ah (hr.up hB);have HK:=ah (ak k0 hB);have HW:=ah hV;have HG:=ah hg0;have HNB:Hid (N<=1000/\ N<=c):=ah (by omega);have hN1:N<=1000:=(by omega);have hNc:N<=c:=(by omega);have Zo:Hid (∀k,k<=N->(∀j (hj:j<l.length),j<k->l[j].fZ<=x.fZ)->(∀ (hj:k<l.length),¬l[k].fZ<=x.fZ)->iy l x=l.take k++x::l.drop k):=ah (fun k hk h1 h2=>aeu (by omega) h1 h2);have bT:Hid (∀v W k,iy l x=l.take k++x::l.drop k->qL W V.heap.size v (l.take k++x::l.drop k)->Below V.heap.size V W->QK (iy l x) w (.returned v) W):=ah (fun v W k h1 h2 h3=>⟨v,rfl,by rw [h1];exact h2.low hB.size,hB.trans (h3.mono hB.size)⟩);rw [<-hN];obtain⟨Q,hQ⟩:=aqx (QK (iy l x) w);rw [<-hQ]at bT⊢;clear hV k0 hB hr hg0 hN hQ hc hlen;go_enter Tryz.func32,Tryz.ntmps32;go_upto_region 1 with fail
 rw [<-HW.out, <-HG.out];clear HW;go_wp2_with fail
 go_loopw [5] (fun v W=>∃k:Nat,k<=N/\ v= .int .i64 k/\ Hid (∀j (hj:j<l.length),j<k->l[j].fZ<=x.fZ)/\ Hid (Below V.heap.size V W)) (fun i _=>N-(intOf i).toNat)
 case atStart=>exact⟨0,aB _,rfl,ah (fun j _ hj=>absurd hj (Nat.not_lt_zero _)),ah (aC _ _)⟩
 case round=>
  obtain⟨k,hk,rfl,Ap,HB⟩:=hrel;obtain⟨W,hW⟩:=aqx wr;subst hW;have c0:W.cell? ⟨g0,0,none⟩=some (.int .u64 x.fZ):=(HK.out.1.under HB.out).cell (i:=0) (by decide);by_cases hlt0:k<N
  · have hlt:k<l.length:=by have:=Io.out;omega
    obtain⟨a',q,ea,hq,-,hcp⟩:=(HR.out.up HB.out).at hlt;injection ea with ea
    subst ea;obtain⟨y,hy⟩:=aqx (l[k]);rw [<-hy]at hcp;have cy:W.cell? q=some (.int .u64 y.fZ):=by
      have h:=hcp 0 (by decide);have e0:q.add 0=q:=(by simp [Addr.add]);rw [e0]at h;exact h
    have xF:Hid (y.fZ<=x.fZ->∀j (hj:j<l.length),j<k+1->l[j].fZ<=x.fZ):=ah (fun h j hj hjk=>by
      by_cases e:j=k
      · subst e;rw [<-hy];exact h
      · exact Ap.out j hj (by omega))
    have Zp:Hid (¬y.fZ<=x.fZ->iy l x=l.take k++x::l.drop k):=ah (fun h=>Zo.out k hk Ap.out (fun hj=>by rw [<-hy];omega));have hki:(k:Int)< (N:Int):=(by omega);clear hcp hlt hy;by_cases hle:y.fZ<=x.fZ
    · have HS:=ah (xF.out hle)
      clear xF Zp;go_upto_region 2 with fail
      go_quiet (fail)
      go_wp2_with fail
      go_roundw
      case rel=>exact⟨k+1,by omega,by go_num,HS,ah (below_drewN HB.out _)⟩
      case measure=>simp [intOf];omega
    · have HI:=ah (Zp.out hle)
      clear xF Zp;go_upto_region 2 with fail
      go_quiet (fail)
      go_upto_region 4 with fail
      clear hle hki cy c0 hq;obtain⟨X,hX⟩:=aqx (W.drewN nq);have QM:Below V.heap.size V X:=(by rw [hX];exact below_drewN HB.out _);rw [<-hX];have hkl:k<=l.length:=(by have:=Io.out;omega);obtain⟨a2,c2,w2,v3,w3,hr2,hr3,b1,b2,b3,ho3⟩:=Hg (c:=c) (k:=k) x X.drew ((HR.out.up (QM.trans ((show Below X.heap.size X X.drew from VS.begin X).mono QM.size)))) (by have:=Io.out;have:=HNB.out.2;omega) (by have:=Io.out;have:=HNB.out.1;omega) hkl 48 48;rw [<-Io.out]at hr2 hr3;have hbs:=yA x X.drew;have HX:=ah (ak QM (HK.out.1.under QM));have BH:=ah (ak hbs (ak hr2 hr3));have oK:=ah (ak b1 (ak b2 b3));have Ih:=ah ho3;have HS8:=ah (fun W=>JB a N c k hk W);have wR:=ah (fun W=>JC a N c k hk hNc W);clear hX QM hkl hr2 hr3 hbs b1 b2 b3 ho3;refine wp_region_held_drew (S:=fun Y=>aU Y g0 87 5 (kK x)) (by kernel_rfl) (HX.out.2.drewN 1) (fun hS=> ?_);refine tA 0 ?_;refine tA 1 ?_;refine tA 2 ?_;refine tP 3 (v:= .slice (some a) k k) (hy:=by(intro W hW;exact He 48 _ _ _ rfl (.slice (some a) N c) (.int .i64 (k:Int)) (.int .i64 (k:Int)) rfl rfl rfl (wR.out W))) ?_;refine tP 4 (v:= .agg (vec 5 (kK x))) (hy:=by(intro W hW;exact jP 87 _ rfl _ _ rfl _ (aQ hW Tryz.underlying87 rfl lN))) ?_;refine tA 6 ?_;refine tA 7 ?_;refine tP 8 (v:= .slice (some (QJ a c k)) (N-k) (c-k)) (hy:=by(intro W hW;exact KI 48 _ _ rfl (.slice (some a) N c) (.int .i64 (k:Int)) rfl rfl (HS8.out W))) ?_;refine oQ 5 fun K5 hK5=> ?_;refine Dn _ _ rfl (.agg (vec 5 (kK x))) rfl BH.out.1 ?_;refine hK5 _ _ ((HX.out.2.drewN 1).under oK.out.1) (fun hS5=> ?_);clear hS hK5 K5;refine oQ 9 fun K9 hK9=> ?_;refine wB _ _ 48 rfl _ _ rfl rfl BH.out.2.1 ?_;refine hK9 _ _ ((HX.out.2.drewN 1).under oK.out.2.1) (fun iJ=> ?_);clear hS5 hK9 K9;refine oQ 10 fun K10 hK10=> ?_;refine wB _ _ 48 rfl _ _ rfl rfl BH.out.2.2 ?_;refine hK10 _ _ ((HX.out.2.drewN 1).under oK.out.2.2) (fun eH=> ?_);clear iJ hK10 K10;refine tA 11 ?_;refine wpAnyH_done (by kernel_rfl) ?_ _;go_wp2
      exact bT.out _ _ k HI.out (Ih.out.low HX.out.1.size) (HX.out.1.trans (((show Below X.heap.size X X.drew from VS.begin X).trans oK.out.2.2).mono HX.out.1.size))
  · have HI:=ah (Zo.out k hk Ap.out (fun hj=>by have:=Io.out;omega))
    have hki:¬ (k:Int)< (N:Int):=(by omega);go_upto_region 2 with fail
    go_quiet (fail)
    go_upto_region 4 with fail
    clear hki c0;obtain⟨X,hX⟩:=aqx (W.drewN nq);have QM:Below V.heap.size V X:=(by rw [hX];exact below_drewN HB.out _);rw [<-hX];have hkl:k<=l.length:=(by have:=Io.out;omega);obtain⟨a2,c2,w2,v3,w3,hr2,hr3,b1,b2,b3,ho3⟩:=Hg (c:=c) (k:=k) x X.drew ((HR.out.up (QM.trans ((show Below X.heap.size X X.drew from VS.begin X).mono QM.size)))) (by have:=Io.out;have:=HNB.out.2;omega) (by have:=Io.out;have:=HNB.out.1;omega) hkl 48 48;rw [<-Io.out]at hr2 hr3;have hbs:=yA x X.drew;have HX:=ah (ak QM (HK.out.1.under QM));have BH:=ah (ak hbs (ak hr2 hr3));have oK:=ah (ak b1 (ak b2 b3));have Ih:=ah ho3;have HS8:=ah (fun W=>JB a N c k hk W);have wR:=ah (fun W=>JC a N c k hk hNc W);clear hX QM hkl hr2 hr3 hbs b1 b2 b3 ho3;refine wp_region_held_drew (S:=fun Y=>aU Y g0 87 5 (kK x)) (by kernel_rfl) (HX.out.2.drewN 1) (fun hS=> ?_);refine tA 0 ?_;refine tA 1 ?_;refine tA 2 ?_;refine tP 3 (v:= .slice (some a) k k) (hy:=by(intro W hW;exact He 48 _ _ _ rfl (.slice (some a) N c) (.int .i64 (k:Int)) (.int .i64 (k:Int)) rfl rfl rfl (wR.out W))) ?_;refine tP 4 (v:= .agg (vec 5 (kK x))) (hy:=by(intro W hW;exact jP 87 _ rfl _ _ rfl _ (aQ hW Tryz.underlying87 rfl lN))) ?_;refine tA 6 ?_;refine tA 7 ?_;refine tP 8 (v:= .slice (some (QJ a c k)) (N-k) (c-k)) (hy:=by(intro W hW;exact KI 48 _ _ rfl (.slice (some a) N c) (.int .i64 (k:Int)) rfl rfl (HS8.out W))) ?_;refine oQ 5 fun K5 hK5=> ?_;refine Dn _ _ rfl (.agg (vec 5 (kK x))) rfl BH.out.1 ?_;refine hK5 _ _ ((HX.out.2.drewN 1).under oK.out.1) (fun hS5=> ?_);clear hS hK5 K5;refine oQ 9 fun K9 hK9=> ?_;refine wB _ _ 48 rfl _ _ rfl rfl BH.out.2.1 ?_;refine hK9 _ _ ((HX.out.2.drewN 1).under oK.out.2.1) (fun iJ=> ?_);clear hS5 hK9 K9;refine oQ 10 fun K10 hK10=> ?_;refine wB _ _ 48 rfl _ _ rfl rfl BH.out.2.2 ?_;refine hK10 _ _ ((HX.out.2.drewN 1).under oK.out.2.2) (fun eH=> ?_);clear iJ hK10 K10;refine tA 11 ?_;refine wpAnyH_done (by kernel_rfl) ?_ _;go_wp2
    exact bT.out _ _ k HI.out (Ih.out.low HX.out.1.size) (HX.out.1.trans (((show Below X.heap.size X X.drew from VS.begin X).trans oK.out.2.2).mono HX.out.1.size))
theorem VL(W:World):(Instr.sliceAt 48 (.slice none 0 0) (some (.int .i64 0)) none none).run Tryz.prog W= .ok (.slice none 0 0) W:=by
 rw [run_sliceAt_slice W _ _ _ _ _ qP,run_slice_l W _ _ _ _ qP .i64 (0:Int) (by omega) (by omega),BM];simp [Result.andThen_ok,sliced]
theorem VN(W:World):(Instr.sliceAt 48 (.slice none 0 0) none (some (.int .i64 0)) (some (.int .i64 0))).run Tryz.prog W= .ok (.slice none 0 0) W:=by
 rw [run_sliceAt_slice W _ _ _ _ _ qP,run_slice_hm W _ _ _ _ qP .i64 .i64 (0:Int) (0:Int) (by omega) (by omega) (by omega),BM];simp [Result.andThen_ok,sliced]
theorem OI(x:Mp)(X:World)(ty ty2:TypeId):∃v3 w3,
  (Builtin.append_ #[48,48] ty #[.slice (some ⟨X.heap.size,0,none⟩) 1 1,.slice none 0 0]).run Tryz.prog (X.alloc (.cells (vec 5 (kK x)) 87))= .ok (.slice (some ⟨X.heap.size,0,none⟩) 1 1) (X.alloc (.cells (vec 5 (kK x)) 87))/\
  (Builtin.append_ #[48,48] ty2 #[.slice none 0 0,.slice (some ⟨X.heap.size,0,none⟩) 1 1]).run Tryz.prog (X.alloc (.cells (vec 5 (kK x)) 87))= .ok v3 w3/\
  Below X.heap.size X (X.alloc (.cells (vec 5 (kK x)) 87))/\ Below X.heap.size X w3/\ qL w3 X.heap.size v3 [x]:=by
 have b1:Below X.heap.size X (X.alloc (.cells (vec 5 (kK x)) 87)):=(aC _ _).alloc (aj _) _;obtain⟨i0,hi,-,-,-⟩:=info_parts xQ;obtain⟨A2,c2,e2,-,hr2,-⟩:=(TF x X).form;obtain⟨a2,ea2,-,-⟩:=hr2 (by simp);subst ea2;obtain⟨v3,w3,h3,ho3,hb3⟩:=OH (l:=[]) (gW.nil (X.alloc (.cells (vec 5 (kK x)) 87)) X.heap.size) b1.size (by simp) (by simp) hr2 (c:=c2) ty2;injection e2 with e2 e3 e4
 rw [<-e2,show([x]:List Mp).length=1 from rfl, <-e4]at h3;refine⟨v3,w3, ?_,h3,b1,b1.trans hb3,ho3⟩;simp [Builtin.append_,Builtin.lenOf,Builtin.firstCells,run_underlying Tryz.underlying48,sizeOf,typeInfo,hi,storeCells]
theorem QN(x:Mp)(w:World):Calls Tryz.prog 32 #[.slice none 0 0,.agg (vec 5 (kK x))] w (QK [x] w):=by
 obtain⟨g0,hg0⟩:=aqx (w.heap.size);obtain⟨V,hV⟩:=aqx (w.alloc (.cells (vec 5 (kK x)) 87));have k0:aU V g0 87 5 (kK x):=(by rw [hV,hg0];exact aU.new w _ _ _);have hB:Below w.heap.size w V:=(by rw [hV];exact(aC _ _).alloc (aj _) _);have HK:=ah (ak k0 hB);have HW:=ah hV;have HG:=ah hg0;have bT:Hid (∀v W,qL W V.heap.size v [x]->Below V.heap.size V W->QK [x] w (.returned v) W):=ah (fun v W h2 h3=>⟨v,rfl,h2.low hB.size,hB.trans (h3.mono hB.size)⟩);obtain⟨Q,hQ⟩:=aqx (QK [x] w);rw [<-hQ]at bT⊢;clear hV k0 hB hg0 hQ;go_enter Tryz.func32,Tryz.ntmps32;go_upto_region 1 with fail
 rw [<-HW.out, <-HG.out];clear HW;go_wp2_with fail
 go_loopw [5] (fun v W=>v= .int .i64 0/\ Hid (Below V.heap.size V W)) (fun _ _=>0)
 case atStart=>exact⟨rfl,ah (aC _ _)⟩
 case round=>
  obtain⟨rfl,HB⟩:=hrel;obtain⟨W,hW⟩:=aqx wr;subst hW;go_upto_region 2 with fail
  go_quiet (fail)
  go_upto_region 4 with fail
  obtain⟨X,hX⟩:=aqx (W.drewN nq);have QM:Below V.heap.size V X:=(by rw [hX];exact below_drewN HB.out _);rw [<-hX];obtain⟨v3,w3,hr2,hr3,b1,b3,ho3⟩:=OI x X.drew 48 48;have hbs:=yA x X.drew;have HX:=ah (ak QM (HK.out.1.under QM));have BH:=ah (ak hbs (ak hr2 hr3));have oK:=ah (ak b1 b3);have Ih:=ah ho3;clear hX QM hr2 hr3 hbs b1 b3 ho3;refine wp_region_held_drew (S:=fun Y=>aU Y g0 87 5 (kK x)) (by kernel_rfl) (HX.out.2.drewN 1) (fun hS=> ?_);refine tA 0 ?_;refine tA 1 ?_;refine tA 2 ?_;refine tP 3 (v:= .slice none 0 0) (hy:=by(intro W hW;exact He 48 _ _ _ rfl (.slice none 0 0) (.int .i64 0) (.int .i64 0) rfl rfl rfl (VN W))) ?_;refine tP 4 (v:= .agg (vec 5 (kK x))) (hy:=by(intro W hW;exact jP 87 _ rfl _ _ rfl _ (aQ hW Tryz.underlying87 rfl lN))) ?_;refine tA 6 ?_;refine tA 7 ?_;refine tP 8 (v:= .slice none 0 0) (hy:=by(intro W hW;exact KI 48 _ _ rfl (.slice none 0 0) (.int .i64 0) rfl rfl (VL W))) ?_;refine oQ 5 fun K5 hK5=> ?_;refine Dn _ _ rfl (.agg (vec 5 (kK x))) rfl BH.out.1 ?_;refine hK5 _ _ ((HX.out.2.drewN 1).under oK.out.1) (fun hS5=> ?_);clear hS hK5 K5;refine oQ 9 fun K9 hK9=> ?_;refine wB _ _ 48 rfl _ _ rfl rfl BH.out.2.1 ?_;refine hK9 _ _ ((HX.out.2.drewN 1).under oK.out.1) (fun iJ=> ?_);clear hS5 hK9 K9;refine oQ 10 fun K10 hK10=> ?_;refine wB _ _ 48 rfl _ _ rfl rfl BH.out.2.2 ?_;refine hK10 _ _ ((HX.out.2.drewN 1).under oK.out.2) (fun eH=> ?_);clear iJ hK10 K10;refine tA 11 ?_;refine wpAnyH_done (by kernel_rfl) ?_ _;go_wp2
  exact bT.out _ _ (Ih.out.low HX.out.1.size) (HX.out.1.trans (((show Below X.heap.size X X.drew from VS.begin X).trans oK.out.2).mono HX.out.1.size))
theorem wK{w:World}{base:Nat}{v:Value}{l:List Mp}(x:Mp)(hown:qL w base v l)(hl:l.length<=1000):Calls Tryz.prog 32 #[v,.agg (vec 5 (kK x))] w (QK (iy l x) w):=by
 obtain⟨A,c,e,hc,hr,hq⟩:=hown.form;rcases A with _|a
 · rcases hown.2 with⟨e2,h2⟩|⟨g,cap,cur,e2,_⟩
   · have hn:l=[]:=by
      by_cases h:l=[]
      · exact h
      · obtain⟨a',ea,-,-⟩:=hr h
        cases ea
     subst hn;rw [e2];exact QN x w
   · rw [e]at e2;cases e2
 · subst e
   refine QL l a c x hc hl w (fun hne=> ?_);obtain⟨a',ea,hb,hcc⟩:=hr hne;refine⟨a',ea, ?_,hcc⟩
   trivial
end Go.Proofs.YtkaipknkjocfiaaGreat
