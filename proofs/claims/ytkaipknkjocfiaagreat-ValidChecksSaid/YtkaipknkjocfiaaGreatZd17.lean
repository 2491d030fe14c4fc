import Derived.Lib.SlBy
import Derived.Lib.Hide
import Derived.Shelf.AbstractIn
import Derived.Shelf.SlicesQ.IndexFunc
import Derived.Laws.EntriesVeiled
import Derived.Test.YtkaipknkjocfiaaGreatZd16
set_option maxRecDepth 100000
set_option maxHeartbeats 64000000
namespace Go.Proofs.YtkaipknkjocfiaaGreat
theorem P6{l r:List Sp}(h:zK (l.filter good) r):r.length<=l.length:=by
 rw [h.1.length_eq];exact List.length_filter_le _ _
theorem FU{l r:List Sp}(hl:∀x∈l,fit x)(h:zK (l.filter good) r):∀x∈r,fit x:=fun x hx=>hl x (List.mem_filter.1 (h.1.mem_iff.1 hx)).1
theorem NH{x y:Sp}(h:¬ (good x=true/\ good y=true)):overlap x y=false:=by
 rw [<-Bool.not_eq_true];intro h2;exact h ⟨((jd x y).1 h2).1,((jd x y).1 h2).2.1⟩
theorem FV{l r:List Sp}(h:zK (l.filter good) r):iD l=false↔r.Pairwise (fun x y=>overlap x y=false):=by
 rw [kQ,h.1.pairwise_iff (fun {x y} hxy=>by rw [sJ];exact hxy),List.pairwise_filter]
 constructor
 · exact fun hp=>hp.imp fun {a b} hab _ _=>hab
 · exact fun hp=>hp.imp fun {a b} hab=>by
    by_cases hg:good a=true/\ good b=true
    · exact hab hg.1 hg.2
    · exact NH hg
theorem FY:∀r:List Sp,r.Pairwise (fun x y=>x.1<=y.1)->(∀x∈r,good x=true)->(∀i (h:i+1<r.length),overlap r[i] r[i+1]=false)->r.Pairwise (fun x y=>overlap x y=false)
 | [],_,_,_=>List.Pairwise.nil
 | [x],_,_,_=>by simp
 |x::y::t,hs,hg,hn=>by
  obtain⟨h1,h2⟩:=List.pairwise_cons.1 hs;have ih:=FY (y::t) h2 (fun z hz=>hg z (by simp [hz])) (fun i h=>hn (i+1) (by simp at h⊢;omega));refine List.pairwise_cons.2 ⟨fun z hz=> ?_,ih⟩;have h0:=hn 0 (by simp);simp only [List.getElem_cons_zero,List.getElem_cons_succ,Nat.zero_add]at h0;have gx:=hg x (by simp);have gy:=hg y (by simp);have gz:=hg z (by simp [hz]);have gx':=(iq x).1 gx;have gy':=(iq y).1 gy;have hxy:=h1 y (by simp);have hyz:y.1<=z.1:=by
   rcases List.mem_cons.1 hz with rfl|hz
   · exact aj _
   · exact(List.pairwise_cons.1 h2).1 z hz
  have e0:¬ (y.1<x.1+x.2):=fun h=>by
   rw [(jd x y).2 ⟨gx,gy,by omega,h⟩]at h0;cases h0
  rw [<-Bool.not_eq_true];intro h;have:=((jd x z).1 h).2.2.2;omega
theorem FZ(l:List Sp){n i j:Nat}(hi:i<n)(hj:j<n):ql (l.take n) i j=ql l i j:=by
 unfold ql;simp only [List.getD_eq_getElem?_getD,List.getElem?_take_of_lt hi,List.getElem?_take_of_lt hj]
theorem vY(l:List Sp){n:Nat}(hn:n<=l.length):iD (l.take n)=false↔∀i j,i<j->j<n->ql l i j=false:=by
 rw [vZ];have e:(l.take n).length=n:=(by simp [hn]);rw [e];exact⟨fun h i j hij hj=>by rw [<-FZ l (n:=n) (by omega) hj];exact h i j hij hj,fun h i j hij hj=>by rw [FZ l (n:=n) (by omega) hj];exact h i j hij hj⟩
theorem P7(l:List Sp)(a b:Nat)(hab:a<=b)(hb:b<l.length)(h:iD (l.take (a+1))=true):iD (l.take (b+1))=true:=by
 rw [<-Bool.not_eq_false]at h⊢;intro h2
 apply h
 rw [vY l (by omega)]at h2⊢;exact fun i j hij hj=>h2 i j hij (by omega)
theorem Jb(q:Nat->Bool):∀n,(∃i,i<n/\ q i=true)->∃i,i<n/\ q i=true/\ ∀i',i'<i->q i'=false
 |0,⟨_,h,_⟩=>absurd h (Nat.not_lt_zero _)
 |n+1,⟨i,hi,hq⟩=>by
  by_cases h:∃i,i<n/\ q i=true
  · obtain⟨i,h1,h2,h3⟩:=Jb q n h
    exact⟨i,by omega,h2,h3⟩
  · refine⟨i,hi,hq,fun i' hi'=> ?_⟩
    rw [<-Bool.not_eq_true];exact fun h'=>h ⟨i',by omega,h'⟩
def yT(x:Sp):Sp:=(x.1% 18446744073709551616,x.2% 18446744073709551616)
theorem UN(x:Sp):fit (yT x):=⟨Nat.mod_lt _ (by decide),Nat.mod_lt _ (by decide)⟩
theorem Gf{x:Sp}(h:fit x):yT x=x:=by
 unfold yT;rw [Nat.mod_eq_of_lt h.1,Nat.mod_eq_of_lt h.2]
theorem NI{l:List Sp}{k:Nat}(hk:k=l.length)(hf:∀t,t<k->iD (l.take (t+1))=false):AX l 0 0 false:=by
 refine .inr ⟨rfl,rfl,rfl,fun i j hij hj=> ?_⟩;have:=hf (l.length-1) (by omega);rw [vY l (by omega)]at this;exact this i j hij (by omega)
theorem P8{l:List Sp}{k:Nat}(hk:k<l.length)(hfit:∀x∈l,fit x)(hf:∀t,t<k->iD (l.take (t+1))=false)(ht:iD (l.take (k+1))=true):
   ∃i,AX l i k true/\ Lib.idxBy (fun _ y=>overlap (yT y) l[k]) (l.take l.length) default=(i:Nat):=by
 have hno:∀i' j',i'<j'->j'<k->ql l i' j'=false:=by
   intro i j hij hj;have:=hf (k-1) (by omega);rw [vY l (by omega)]at this;exact this i j hij (by omega)
 have hex:∃i,i<k/\ ql l i k=true:=by
   apply Classical.byContradiction
   intro hc;have:iD (l.take (k+1))=false:=by
    rw [vY l (by omega)];intro i j hij hj;rcases Nat.lt_or_ge j k with h|h
    · exact hno i j hij h
    · obtain rfl:j=k:=by omega
      rw [<-Bool.not_eq_true];exact fun h'=>hc ⟨i,hij,h'⟩
   rw [this]at ht;cases ht
 obtain⟨i,hi,hh,hm⟩:=Jb (fun i=>ql l i k) k hex;refine⟨i,.inl ⟨rfl,hi,hk,hh,hno,hm⟩, ?_⟩;refine Lib.idxBy_hit _ l l.length i default (by omega) (aj _) ?_ (fun j hj=> ?_)
 · have e:l[i]! =l[i]:=getElem!_pos l i (by omega)
   simp only [e,Gf (hfit _ (ay (show i<l.length by omega)))];rw [<-uf (by omega) hk];exact hh
 · have e:l[j]! =l[j]:=getElem!_pos l j (by omega)
   simp only [e,Gf (hfit _ (ay (show j<l.length by omega)))];rw [<-uf (by omega) hk];exact hm j hj
open Go.RowKit
theorem UO(A:Option Addr)(cap:Nat)(l:List Sp)(hl:l.length<=100000)(hf:∀x∈l,fit x)(w:World)(hR:Row w w.heap.size A l):
  Calls Tryz.prog 127 #[.slice A l.length cap] w fun e w'=>e= .returned (.bool (iD l))/\ Below w.heap.size w w':=by
 have Hf:=ah hf;have Hl:=ah hl;have Hr:=ah (P5 A cap l hf hl w hR);obtain⟨v0,hv0⟩:=aqx (iD l);rw [<-hv0];have HV:=ah hv0;clear hl hf hR hv0;go_enter Tryz.func127,Tryz.ntmps127;go_wp2_with(go_at_call 162;refine Hr.out.mono ?_;rintro e w1 ⟨v,r,rfl,hri,ho,hb⟩;obtain⟨A1,c1,rfl,hrow⟩:=ho.row;have hrl:=aA (P6 hri) Hl.out;have Hrl:=ah hrl;have Hri:=ah hri;have Hb:=ah hb;have ahH:=ah hrow;clear hri hb hrow ho hrl)
 clear Hr;go_loopw [4] (fun i W=>∃m:Nat,(m=0∨m+1<=r.length)/\ i= .int .i64 ((m:Int)+1)/\ RowKit.Hid (∀i,i<m->ql r i (i+1)=false)/\ Below w1.heap.size w1 W) (fun i _=>r.length+1-(intOf i).toNat)
 case atStart=>exact⟨0,.inl rfl,by simp,ah fun _ h=>absurd h (Nat.not_lt_zero _),aC _ _⟩
 case round=>
  obtain⟨m,hm,rfl,hno,hbel⟩:=hrel;have hb3:m+1<=1000001:=(by have:=Hrl.out;omega);by_cases hlt:m+1<r.length
  · have hml:m<r.length:=by omega
    obtain⟨a,p,rfl,hp,hpb,hc1,hc2⟩:=(ahH.out.below hbel).at hml;obtain⟨a',q,ha,hq,XY,hc3,hc4⟩:=(ahH.out.below hbel).at hlt;obtain rfl:a=a':=Option.some.inj ha;have hfit:=FU Hf.out Hri.out _ (ay hml);have Gg:=FU Hf.out Hri.out _ (ay hlt);have hhit:=uf hml hlt;obtain⟨x,hx⟩:∃x,r[m]=x:=⟨_,rfl⟩;obtain⟨y,hy⟩:∃y,r[m+1]=y:=⟨_,rfl⟩;rw [hx]at hc1 hc2 hfit hhit;rw [hy]at hc3 hc4 Gg hhit;obtain⟨b,s⟩:=x;obtain⟨c,d⟩:=y;have HX:=ah hx;have HY:=ah hy;have lK:=ah (show Below w.heap.size w wr from Hb.out.trans (hbel.mono Hb.out.size));have ahI:=ah hbel;obtain⟨o,ho⟩:=aqx (ql r m (m+1));have HO:=ah (show∀w,Calls Tryz.prog 83 #[.agg #[.int .u64 (b:Int),.int .u64 (s:Int)],.agg #[.int .u64 (c:Int),.int .u64 (d:Int)]] w fun e w'=>e= .returned (.bool o)/\ Below w.heap.size w w' from fun w=>by rw [ho,hhit];exact uH b s c d hfit Gg w);have HH:=ah ho;have hlt':(m:Int)+1< (r.length:Int):=(by omega);have hml':(m:Int)< (r.length:Int):=(by omega);have hlen':=Hrl.out;have hw0:IntKind.i64.wrap (m:Int)=m:=(by simp [IntKind.wrap,IntKind.bits,IntKind.signed];omega);have hz0:(0:Int)<=(m:Int)+1:=(by omega);clear hx hy hpb XY hbel hfit Gg hhit ha ho;go_wp2
    refine wp_region_held_drew (S:=fun W=>Below w1.heap.size w1 W/\ W.cell? p=some (.int .u64 (b:Int))/\ W.cell? ⟨p.block,p.off+1,none⟩=some (.int .u64 (s:Int))/\ W.cell? q=some (.int .u64 (c:Int))/\ W.cell? ⟨q.block,q.off+1,none⟩=some (.int .u64 (d:Int))) (by kernel_rfl) (by exact⟨ahI.out.drew,hc1,hc2,hc3,hc4⟩) (fun hS=> ?_);refine tA 0 ?_;refine tA 1 ?_;refine tA 2 ?_;refine tA 3 ?_;refine tA 4 ?_;refine tA 5 ?_;refine tA 6 ?_;refine tA 7 ?_;refine tA 8 ?_;refine oQ 9 fun K9 hK9=> ?_;go_simp;refine(HO.out _).mono ?_;rintro e w1 ⟨rfl,hd⟩;refine hK9 _ _ (fV hd hS) (fun iJ=> ?_);clear hS hd hK9 K9;refine wpAnyH_done (by kernel_rfl) ?_ _;have HS:=ah iJ;clear iJ;cases o
    · go_wp2
      go_roundw
      case rel=>
       refine⟨m+1,.inr (by omega),by go_num,ah fun i' hi'=> ?_, ?_⟩
       · rcases Nat.lt_succ_iff_lt_or_eq.1 hi' with h|rfl
         · exact hno.out i' h
         · exact HH.out.symm
       · exact HS.out.1
      case measure=>simp [intOf];omega
    · have e:v0=true:=by
       rw [HV.out, <-Bool.not_eq_false,FV Hri.out, <-kQ,vZ];intro h;have:=h m (m+1) (by omega) hlt;rw [<-HH.out]at this;cases this
      have HE:=ah e;clear e;go_wp2
      go_ret;exact⟨by rw [HE.out];rfl,Hb.out.trans (HS.out.1.mono Hb.out.size)⟩
  · have e:v0=false:=by
      rw [HV.out,FV Hri.out];refine FY r Hri.out.2 (fun x hx=>(List.mem_filter.1 (Hri.out.1.mem_iff.1 hx)).2) (fun i hi=> ?_);rw [<-uf (by omega) hi];exact hno.out i (by omega)
    have HE:=ah e;have lK:=ah (show Below w.heap.size w wr from Hb.out.trans (hbel.mono Hb.out.size));clear e hbel;have hlen':=Hrl.out;go_wp2
    go_ret;exact⟨by rw [HE.out];rfl,lK.out⟩
open Go.RowKit Go.Shelf
theorem J3(g:Nat)(cb:Array Value)(n:Nat)(p:Nat->Bool)(w:World)(eg:∀args w,(callFunc g args).run Tryz.prog w= .ok (.enter g args) w)(hn:n<=1000000)
  (hf:∀ (W:World) (i:Nat),i<n->Below w.heap.size w W->Calls Tryz.prog g (#[.int .i64 (i:Int)]++cb) W fun e w'=>e= .returned (.bool (p i))/\ Below W.heap.size W w')
  (hmono:∀a b,a<=b->b<n->p a=true->p b=true):
  Calls Tryz.prog 125 #[.int .i64 (n:Int),.func (.func g) #[] cb] w fun e w'=>∃k:Nat,e= .returned (.int .i64 (k:Int))/\ k<=n/\ (∀t,t<k->p t=false)/\ (∀t,k<=t->t<n->p t=true)/\ Below w.heap.size w w':=by
 have HF:=ah hf;have HM:=ah hmono;have HN:=ah hn;clear hf hmono;go_enter Tryz.func125,Tryz.ntmps125;go_wp2
 go_loopw [5,6] (fun s5 s6 wr=>∃lo hi:Nat,s5= .int .i64 (lo:Int)/\ s6= .int .i64 (hi:Int)/\ lo<=hi/\ hi<=n/\ RowKit.Hid ((∀t,t<lo->p t=false)/\ (∀t,hi<=t->t<n->p t=true))/\ Below w.heap.size w wr) (fun s5 s6 _=>(intOf s6).toNat-(intOf s5).toNat)
 case atStart=>exact⟨0,n,rfl,rfl,aB _,aj _,ah ⟨fun t ht=>absurd ht (Nat.not_lt_zero _),fun t h1 h2=>by omega⟩,aC _ _⟩
 case round=>
  obtain⟨lo,hi,rfl,rfl,hlh,hin,I,hbel⟩:=hrel;by_cases hlt:lo<hi
  · have hc:=HF.out wr ((lo+hi)/2) (by omega) hbel
    rw [show(((lo+hi)/2:Nat):Int)=((lo:Int)+(hi:Int))/2 by omega]at hc;have lK:=ah hbel;clear hbel;obtain⟨b,hb⟩:=aqx (p ((lo+hi)/2));rw [<-hb]at hc;have HP:=ah hb;have HC:=ah hc;clear hb hc;cases b
    · go_wp2_with(go_at_fn g;refine HC.out.mono ?_;rintro e w' ⟨rfl,hd⟩;have H1:=ah (lK.out.trans (hd.mono lK.out.size));clear hd)
      go_roundw
      case rel=>
       refine⟨(lo+hi)/2+1,hi,by rw [show((lo:Int)+(hi:Int))/2+1=(((lo+hi)/2+1:Nat):Int) by omega],rfl,by omega,hin,ah ⟨fun t ht=> ?_,I.out.2⟩,H1.out⟩;cases h:p t with
       |false=>rfl
       |true=>have:=HM.out t ((lo+hi)/2) (by omega) (by omega) h;rw [<-HP.out]at this;cases this
      case measure=>simp [intOf];omega
    · go_wp2_with(go_at_fn g;refine HC.out.mono ?_;rintro e w' ⟨rfl,hd⟩;have H1:=ah (lK.out.trans (hd.mono lK.out.size));clear hd)
      go_roundw
      case rel=>exact⟨lo,(lo+hi)/2,rfl,by rw [show((lo:Int)+(hi:Int))/2=(((lo+hi)/2:Nat):Int) by omega],by omega,by omega,ah ⟨I.out.1,fun t ht htn=>HM.out ((lo+hi)/2) t ht htn HP.out.symm⟩,H1.out⟩
      case measure=>simp [intOf];omega
  · obtain rfl:hi=lo:=by omega
    have lK:=ah hbel;clear hbel;go_wp2
    go_ret;exact⟨hi,rfl,hin,I.out.1,I.out.2,lK.out⟩
open Go.RowKit
theorem Row.take{w:World}{B:Nat}{A:Option Addr}{l:List Sp}(h:Row w B A l)(n:Nat):Row w B A (l.take n):=fun hn=>by
 obtain⟨a,e,hb,hc⟩:=h (fun h0=>hn (by rw [h0];simp));refine⟨a,e,hb,fun j hj=> ?_⟩;have hj':j<l.length:=(by simp at hj;omega);simp only [List.getElem_take];exact hc j hj'
theorem P9(bL:Nat)(A:Option Addr)(cap:Nat)(l:List Sp)(hl:l.length<=100000)(hcap:l.length<=cap/\ cap<=maxLen)(hf:∀x∈l,fit x)(i:Nat)(hi:i<l.length)(w:World)(hb:w.cell? ⟨bL,0,none⟩=some (.slice A l.length cap))(hR:Row w w.heap.size A l):
  Calls Tryz.prog 126 (#[.int .i64 (i:Int)]++ #[.pointer (some ⟨bL,0,none⟩)]) w fun e w'=>e= .returned (.bool (iD (l.take (i+1))))/\ Below w.heap.size w w':=by
 obtain⟨a,rfl,_⟩:=hR (fun h=>by subst h;cases hi);have hc:=UO (some a) cap (l.take (i+1)) (by simp;omega) (fun x hx=>hf x (List.mem_of_mem_take hx)) w (hR.take _);rw [show(l.take (i+1)).length=i+1 by simp;omega]at hc;have HC:=ah hc;have h1:(i:Int)+1<=cap:=(by omega);have h2:(i:Int)+1<=1000000:=(by omega);have h3:(0:Int)<=(i:Int)+1:=(by omega);have h4:=hcap.2;have h5:((i:Int)+1).toNat=i+1:=(by omega);have h6:i+1<=cap:=(by omega);unfold maxLen at h4;clear hc hR hf hcap;go_enter Tryz.func126,Tryz.ntmps126;go_wp2_with(go_at_call 127;refine HC.out.mono ?_;rintro e w1 ⟨rfl,hd⟩)
 go_ret;exact⟨rfl,hd⟩
theorem Qa(bL bJ:Nat)(A:Option Addr)(cap:Nat)(l:List Sp)(hf:∀x∈l,fit x)(k:Nat)(hk:k<l.length)(x y:Nat)(hx:fit (x,y))(W0:World)(hb:W0.cell? ⟨bL,0,none⟩=some (.slice A l.length cap))(hj:W0.cell? ⟨bJ,0,none⟩=some (.int .i64 (k:Int)))(hR:Row W0 W0.heap.size A l):
  Calls Tryz.prog 129 (#[.agg #[.int .u64 (x:Int),.int .u64 (y:Int)]]++ #[.pointer (some ⟨bL,0,none⟩),.pointer (some ⟨bJ,0,none⟩)]) W0 fun e w'=>e= .returned (.bool (overlap (x,y) l[k]))/\ Below W0.heap.size W0 w':=by
 obtain⟨a,q,rfl,hq,XY,hc3,hc4⟩:=hR.at hk;have hfit:=hf _ (ay hk);obtain⟨z,hz⟩:∃z,l[k]=z:=⟨_,rfl⟩;rw [hz]at hc3 hc4 hfit⊢;obtain⟨c,d⟩:=z;obtain⟨o,ho⟩:=aqx (overlap (x,y) (c,d));rw [<-ho];have HO:=ah (show∀w,Calls Tryz.prog 83 #[.agg #[.int .u64 (x:Int),.int .u64 (y:Int)],.agg #[.int .u64 (c:Int),.int .u64 (d:Int)]] w fun e w'=>e= .returned (.bool o)/\ Below w.heap.size w w' from fun w=>by rw [ho];exact uH x y c d hx hfit w);have Hb0:=ah (show Below W0.heap.size W0 (W0.alloc (Df x y))from(aC _ _).alloc (aj _) _);have HbL:=ah (show(W0.alloc (Df x y)).cell? ⟨bL,0,none⟩=some (.slice (some a) l.length cap)from(World.cell?_alloc_lt W0 _ _ (aG W0 _ hb)).trans hb);have HbJ:=ah (show(W0.alloc (Df x y)).cell? ⟨bJ,0,none⟩=some (.int .i64 (k:Int))from(World.cell?_alloc_lt W0 _ _ (aG W0 _ hj)).trans hj);have Hq1:=ah (show(W0.alloc (Df x y)).cell? q=some (.int .u64 (c:Int))from(World.cell?_alloc_lt W0 _ _ XY).trans hc3);have Hq2:=ah (show(W0.alloc (Df x y)).cell? ⟨q.block,q.off+1,none⟩=some (.int .u64 (d:Int))from(World.cell?_alloc_lt W0 (Df x y) ⟨q.block,q.off+1,none⟩ XY).trans hc4);have hk':(k:Int)< (l.length:Int):=(by omega);clear hb hj hR XY hc3 hc4 hfit hz ho hf hx;go_enter Tryz.func129,Tryz.ntmps129;go_wp2
 refine wp_region_held_drew (S:=fun W=>(Below W0.heap.size W0 W/\ W.cell? ⟨W0.heap.size,0,none⟩=some (.int .u64 (x:Int))/\ W.cell? ⟨W0.heap.size,1,none⟩=some (.int .u64 (y:Int))/\ W.cell? ⟨bL,0,none⟩=some (.slice (some a) l.length cap)/\ W.cell? ⟨bJ,0,none⟩=some (.int .i64 (k:Int)))/\ (Below W0.heap.size W0 W/\ W.cell? q=some (.int .u64 (c:Int))/\ W.cell? ⟨q.block,q.off+1,none⟩=some (.int .u64 (d:Int))/\ W.cell? q=some (.int .u64 (c:Int))/\ W.cell? q=some (.int .u64 (c:Int)))) (by kernel_rfl) (by exact⟨⟨Hb0.out.drew,by simp,by simp,HbL.out,HbJ.out⟩,Hb0.out.drew,Hq1.out,Hq2.out,Hq1.out,Hq1.out⟩) (fun hS=> ?_);refine tA 0 ?_;refine tA 1 ?_;refine tA 2 ?_;refine tA 3 ?_;refine tA 4 ?_;refine oQ 5 fun K5 hK5=> ?_;go_simp;refine(HO.out _).mono ?_;rintro e w1 ⟨rfl,hd⟩;refine hK5 _ _ (show _/\ _ from⟨fV hd hS.1,fV hd hS.2⟩) (fun hS5=> ?_);clear hS hd hK5 K5;refine tA 6 ?_;refine wpAnyH_done (by kernel_rfl) ?_ _;have HS:=ah hS5;clear hS5;go_wp2
 go_ret;exact⟨rfl,HS.out.1.1⟩
def ab8(x:Sp):List Value:=[.int .u64 ((yT x).1:Int),.int .u64 ((yT x).2:Int)]
theorem first_any(A:Option Addr)(cap:Nat)(l:List Sp)(hl:l.length<=100000)(hcap:l.length<=cap/\ cap<=maxLen)(hf:∀x∈l,fit x)(w:World)(hR:Row w w.heap.size A l):
   Calls Tryz.prog 92 #[.slice A l.length cap] w fun e w'=>∃ (i j:Nat) (b:Bool),e= .returned (.tuple #[.int .i64 i,.int .i64 j,.bool b])/\ AX l i j b/\ Below w.heap.size w w':=by
 have eg1:∀args w,(callFunc 126 args).run Tryz.prog w= .ok (.enter 126 args) w:=enters_of Tryz.func126 (by kernel_rfl) rfl;have eg2:∀args w,(callFunc 129 args).run Tryz.prog w= .ok (.enter 129 args) w:=enters_of Tryz.func129 (by kernel_rfl) rfl;obtain⟨w1,hw1⟩:=aqx (w.alloc (.cells #[.slice A l.length cap] 40));have hb1:Below w.heap.size w w1:=(by rw [hw1];exact(aC _ w).alloc (aj _) _);have hs1:w1.heap.size=w.heap.size+1:=(by rw [hw1];simp);have hc1:w1.cell? ⟨w.heap.size,0,none⟩=some (.slice A l.length cap):=(by rw [hw1];simp);have hR1:Row w1 w1.heap.size A l:=(hR.below hb1).wide (by omega);have hS:=J3 126 #[.pointer (some ⟨w.heap.size,0,none⟩)] l.length (fun i=>iD (l.take (i+1))) w1 eg1 (by omega)
   (fun W i hi hW=>P9 w.heap.size A cap l hl hcap hf i hi W ((hW.cell (aG w1 _ hc1)).trans hc1) ((hR1.below hW).wide hW.size))
   (fun a b hab hb ha=>P7 l a b hab hb ha)
 have hIdx:∀ (k:Nat) (hk:k<l.length) (W:World),Below w1.heap.size w1 W->W.cell? ⟨W.heap.size-1,0,none⟩=some (.int .i64 (k:Int))->
     Calls Tryz.prog 128 #[.slice A l.length cap,.func (.func 129) #[] #[.pointer (some ⟨w.heap.size,0,none⟩),.pointer (some ⟨W.heap.size-1,0,none⟩)]] W fun e w'=>e= .returned (.int .i64 (Lib.idxBy (fun _ y=>overlap (yT y) l[k]) (l.take l.length) default))/\ Below W.heap.size W w':=by
   intro k hk W hW hj;have hRW:=(hR1.below hW).wide hW.size;obtain⟨a,rfl,hab,hcell⟩:=hRW (fun h=>by subst h;cases hk);have hsp:a.spot=none:=by
     have h0:=(hcell 0 (by omega)).1;rw [show a.add (0*2)=a by simp [Addr.add]]at h0;unfold World.cell? at h0
     split at h0
     · split at h0
       · cases h0
       · rename_i h;simpa using h
     · cases h0
   obtain⟨b,off,sp⟩:=a;simp only at hsp;subst hsp;refine AnyQ.slices_IndexFunc akj 2 Tryz.isAgg24 Tryz.sizeOf24 ab8 (fun _=>rfl) (fun y=>overlap (yT y) l[k]) 129 _ eg2 b off l.length cap l W ?_ (aj _) (by omega) hab ?_
   · intro W2 x hW2
     refine(Qa w.heap.size (W.heap.size-1) _ cap l hf k hk (yT x).1 (yT x).2 (UN x) W2 ?_ ?_ ((hRW.below hW2).wide hW2.size)).mono fun e w' ⟨he,hb⟩=>⟨he,hW2.trans (hb.mono hW2.size)⟩
     · have h1:=(hW.cell (aG w1 _ hc1)).trans hc1
       exact(hW2.cell (aG W _ h1)).trans h1
     · exact(hW2.cell (aG W _ hj)).trans hj
   · intro j hj' i v hv
     have e:l[j]! =l[j]:=getElem!_pos l j hj';rw [e]at hv;unfold ab8 at hv;rw [Gf (hf _ (ay hj'))]at hv;have:=hcell j hj';simp only [Addr.add]at this
     match i,hv with
     |0,hv=>simp at hv;subst hv;have h0:=this.1;split at h0<;>simp_all
     |1,hv=>simp at hv;subst hv;have h0:=this.2;simp at h0;simpa [Nat.add_assoc]using h0
 have HS:=ah hS;have HI:=ah hIdx;have HW:=ah hw1;have HB:=ah hb1;have Lc:=ah hs1;have Eh:=ah hc1;have HF:=ah hf;clear hS hIdx hw1 hb1 hs1 hc1 hR hR1 hf hcap;go_enter Tryz.func92,Tryz.ntmps92;go_wp2_with(go_at_call 125;rw [<-HW.out];refine HS.out.mono ?_;rintro e w2 ⟨k,rfl,hk,hn,hp,hd⟩;have HN:=ah hn;have HP:=ah hp;have HD:=ah hd;have hbl:=(hd.cell (aG w1 _ Eh.out)).trans Eh.out;have hlt2:=aG w2 _ hbl;have aod:=(World.cell?_alloc_lt w2 (.cells #[.int .i64 (k:Int)] 3) ⟨w.heap.size,0,none⟩ hlt2).trans hbl;clear hn hp hd hbl hlt2)
 · rename_i hcond
   have e:k=l.length:=by
     have:=eq_of_beq hcond;omega
   go_ret3
   exact⟨0,0,false,rfl,NI e HN.out,HB.out.trans ((HD.out.alloc HD.out.size _).mono HB.out.size)⟩
 · rename (((k:Int)==(l.length:Int))=false)=>hcond
   have hkl:k<l.length:=by
     have:¬ (k:Int)=(l.length:Int):=fun h=>by rw [h]at hcond;simp at hcond
     omega
   obtain⟨i,hfi,hidx⟩:=P8 hkl HF.out HN.out (HP.out k (aj _) hkl);have hI:=HI.out k hkl (w2.alloc (.cells #[.int .i64 (k:Int)] 3)) (HD.out.alloc HD.out.size _) (by simp);rw [show(w2.alloc (.cells #[.int .i64 (k:Int)] 3)).heap.size-1=w2.heap.size by simp,hidx]at hI;have HI2:=ah hI;have Z8:=ah hfi;have hbj:(w2.alloc (.cells #[.int .i64 (k:Int)] 3)).cell? ⟨w2.heap.size,0,none⟩=some (.int .i64 (k:Int)):=(by simp);have HBJ:=ah hbj;clear HI hI hfi hidx hbj;refine HI2.out.mono ?_;rintro e w3 ⟨rfl,hd⟩;have Hd:=ah hd;have hbj:=(hd.cell (aG _ _ HBJ.out)).trans HBJ.out;clear hd;simp only [];have HW3:=ah (show Below w.heap.size w w3 from HB.out.trans (((HD.out.alloc HD.out.size _).trans (Hd.out.mono (by have:=HD.out.size;simp;omega))).mono HB.out.size));go_wp2
   refine wp_region_held_drew (S:=fun W=>Below w.heap.size w W/\ W.cell? ⟨w2.heap.size,0,none⟩=some (.int .i64 (k:Int))) (by kernel_rfl) (by exact⟨HW3.out.drew,hbj⟩) (fun hS=> ?_);refine tA 0 ?_;refine tA 1 ?_;refine tA 2 ?_;refine tA 3 ?_;refine tA 4 ?_;refine wpAnyH_done (by kernel_rfl) ?_ _;have HS:=ah hS;clear hS;go_wp2
   go_ret3
   exact⟨i,k,true,rfl,Z8.out,HS.out.1⟩
open Go.RowKit Go.Maps
theorem Jc:CG:=fun A cap l w h1 h2 h3 hf hR=>(first_any A cap l h1 ⟨h2,h3⟩ hf w (row_of hR)).mono fun e w' hh=>by
 obtain⟨i,j,b,he,hi,hb⟩:=hh;exact⟨i,j,by rw [he,DZ hi],hb⟩
def ug(x:Cf)(n:Nat):List Lit:=(x.gs.take n).flatMap fun t=>tK t.gX 32
theorem UQ(x:Cf)(n:Nat)(hn:n<x.gs.length):ug x (n+1)=ug x n++tK x.gs[n].gX 32:=by
 unfold ug;rw [aO hn,List.flatMap_append];simp
theorem wO{n:Nat}{f g:Nat->Bool}(h:∀i,i<n->f i=g i):(List.range n).all f=(List.range n).all g:=by
 rw [Bool.eq_iff_iff,List.all_eq_true,List.all_eq_true];exact⟨fun hh i hi=>by rw [<-h i (List.mem_range.1 hi)];exact hh i hi,fun hh i hi=>by rw [h i (List.mem_range.1 hi)];exact hh i hi⟩
theorem Gh(m j:Nat):zG (m:Int) (j:Int)=m.testBit j:=by
 unfold zG;rw [Nat.testBit_eq_decide_div_mod_eq,Int.toNat_natCast];exact decide_eq_decide.2 (by constructor<;>intro h<;>norm_cast at*)
theorem NJ(m j:Nat)(hj:j<32):tJ (tK (m:Int) 32) (.int .i64 (j:Int))=m.testBit j:=by
 unfold tJ tK;rw [Bool.eq_iff_iff,List.any_eq_true]
 constructor
 · rintro⟨y,hy,hk⟩
   obtain⟨i,hi,rfl⟩:=List.mem_map.1 hy;have h2:=(List.mem_filter.1 hi).2;simp [Lit.sameKey]at hk;obtain rfl:i=j:=by omega
   rw [<-Gh];exact h2
 · intro h
   exact⟨_,List.mem_map.2 ⟨j,List.mem_filter.2 ⟨List.mem_range.2 hj,by rw [Gh];exact h⟩,rfl⟩,by simp [Lit.sameKey]⟩
theorem XZ{α:Type}(l:List α)(f:α->List Lit)(k:Lit):tJ (l.flatMap f) k=l.any fun t=>tJ (f t) k:=by
 induction l with
 |nil=>rfl
 |cons t l ih=>rw [List.flatMap_cons,Fz,ih,List.any_cons]
theorem and_zero(m k:Nat):(m&&&k=0)↔∀j,m.testBit j=true->k.testBit j=false:=by
 constructor
 · intro h j hj
   have:=congrArg (fun z=>z.testBit j) h;simp only [Nat.testBit_and,Nat.zero_testBit,hj,Bool.true_and]at this;exact this
 · intro h
   refine Nat.eq_of_testBit_eq fun j=> ?_;rw [Nat.testBit_and,Nat.zero_testBit];cases hj:m.testBit j with
   |false=>rfl
   |true=>rw [h j hj];rfl
theorem uh(m c:Nat):m/2^c=0↔∀j,m.testBit j=true->j<c:=by
 rw [Nat.div_eq_zero_iff_lt (Nat.two_pow_pos c)]
 constructor
 · intro h j hj
   rcases Nat.lt_or_ge j c with h1|h1
   · exact h1
   · have:=Nat.testBit_lt_two_pow (aN h (Nat.pow_le_pow_right (by decide) h1))
     rw [this]at hj;cases hj
 · intro h
   refine Nat.lt_pow_two_of_testBit m fun j hj=> ?_;cases hb:m.testBit j with
   |false=>rfl
   |true=>have:=h j hb;omega
theorem aaR{b:Bd}{x:Cf}(hb:Aj x)(hc:0<=b.gX/\ b.gX<=32){n:Nat}(hn:n<x.gs.length):Il x.gs[n].gX b.gX (ug x n)=AY b x n:=by
 obtain⟨c,hc1⟩:=au hc.1;have hm:∀i (hi:i<x.gs.length),∃m:Nat,x.gs[i].gX=(m:Int)/\ m<4294967296/\ maskN x.gs[i]=m:=fun i hi=>by
   have:=(hb.gs _ (ay hi)).gX;unfold rP at this;exact⟨x.gs[i].gX.toNat,by omega,by omega,rfl⟩
 obtain⟨m,hm1,hm2,hm3⟩:=hm n hn;unfold AY;rw [aF hn];simp only;rw [hm3,hm1,hc1,show((c:Int)).toNat=c from rfl];unfold Il;have hmz:(!((m:Int)==0))= !(m==0):=by
   congr 1
   exact Bool.eq_iff_iff.2 (by simp)
 rw [hmz];have h32:∀j,m.testBit j=true->j<32:=(uh m 32).1 (Nat.div_eq_of_lt (by omega));have hin:∀j:Nat,j<32->(tJ (ug x n) (.int .i64 (j:Int))=true↔∃i,∃hi:i<x.gs.length,i<n/\ (maskN x.gs[i]).testBit j=true):=fun j hj=>by
   unfold ug;rw [XZ,List.any_eq_true]
   constructor
   · rintro⟨t,ht,hk⟩
     obtain⟨i,hi,rfl⟩:=List.mem_take_iff_getElem.1 ht;obtain⟨mi,h1,h2,h3⟩:=hm i (by omega);rw [h1,NJ mi j hj]at hk;exact⟨i,by omega,by omega,by rw [h3];exact hk⟩
   · rintro⟨i,hi,hin,hk⟩
     obtain⟨mi,h1,h2,h3⟩:=hm i hi;refine⟨x.gs[i],List.mem_take_iff_getElem.2 ⟨i,by omega,rfl⟩, ?_⟩;rw [h1,NJ mi j hj, <-h3];exact hk
 rw [Bool.eq_iff_iff];simp only [Bool.and_eq_true,List.all_eq_true,List.mem_range,decide_eq_true_eq,Bool.not_eq_true',beq_iff_eq];have hat:∀j:Nat,j<32->(AB (m:Int) (c:Int) (ug x n) j=true↔(m.testBit j=true->j<c/\ tJ (ug x n) (.int .i64 (j:Int))=false)):=fun j hj=>by
   unfold AB;rw [Gh];cases m.testBit j with
   |false=>simp
   |true=>
     simp only [Bool.not_true,Bool.false_or,Bool.and_eq_true,decide_eq_true_eq,Bool.not_eq_true']
     constructor
     · rintro⟨h1,h2⟩ _
       exact⟨by omega,h2⟩
     · intro h
       obtain⟨h1,h2⟩:=h trivial;exact⟨by omega,h2⟩
 constructor
 · rintro⟨h1,h2⟩
   refine⟨⟨h2,(uh m c).2 fun j hj=>((hat j (h32 j hj)).1 (h1 j (h32 j hj)) hj).1⟩,fun i hi=> ?_⟩;have hil:i<x.gs.length:=(by omega);rw [aF hil,Option.getD_some,and_zero];intro j hj;have:=((hat j (h32 j hj)).1 (h1 j (h32 j hj)) hj).2;rw [<-Bool.not_eq_true,hin j (h32 j hj)]at this;rw [<-Bool.not_eq_true];exact fun hb=>this ⟨i,hil,hi,hb⟩
 · rintro⟨⟨h1,h2⟩,h3⟩
   refine⟨fun j hj=>(hat j hj).2 fun hb=>⟨(uh m c).1 h2 j hb, ?_⟩,h1⟩;rw [<-Bool.not_eq_true,hin j hj];rintro⟨i,hi,hil,hk⟩;have:=h3 i hil;rw [aF hi,Option.getD_some,and_zero]at this;rw [this j hb]at hk;cases hk
theorem SE(ls:List (List Int))(g i:Nat)(v:Int)(hg:g<ls.length):yU ls g i v= !((ls.take g).flatten++(ls.getD g []).take i).contains v:=by
 unfold yU;rw [Bool.eq_iff_iff,List.all_eq_true];simp only [List.mem_range,List.all_eq_true,Bool.or_eq_true,Bool.and_eq_true,decide_eq_true_eq,Bool.not_eq_true',beq_eq_false_iff_ne,ne_eq];rw [<-Bool.not_eq_true,List.contains_iff_mem,List.mem_append,not_or]
 constructor
 · intro h
   constructor
   · intro hm
     obtain⟨l,hl,hv⟩:=List.mem_flatten.1 hm;obtain⟨k,hk,rfl⟩:=List.mem_take_iff_getElem.1 hl;obtain⟨j,hj,rfl⟩:=List.getElem_of_mem hv;have hkl:k<ls.length:=(by omega);have:=h k (by omega) j (by rw [List.getD_eq_getElem?_getD,aF hkl,Option.getD_some];exact hj);rcases this with⟨h1,_⟩|h1
     · omega
     · apply h1
       rw [List.getD_eq_getElem?_getD,aF hkl,Option.getD_some,aF hj]
   · intro hm
     obtain⟨j,hj,hv⟩:=List.mem_take_iff_getElem.1 hm;have hjl:j< (ls.getD g []).length:=(by omega);rcases h g (by omega) j hjl with⟨_,h1⟩|h1
     · omega
     · apply h1
       rw [aF hjl,hv]
 · rintro⟨h1,h2⟩ k hk j hj
   by_cases hkg:k=g
   · subst hkg
     rcases Nat.lt_or_ge j i with h3|h3
     · right
       intro e
       apply h2
       rw [aF hj]at e;injection e with e
       exact List.mem_take_iff_getElem.2 ⟨j,by omega,e⟩
     · exact .inl ⟨rfl,h3⟩
   · right
     intro e
     apply h1
     have hkl:k<ls.length:=(by omega);rw [List.getD_eq_getElem?_getD,aF hkl,Option.getD_some]at hj e;rw [aF hj]at e;injection e with e
     exact List.mem_flatten.2 ⟨ls[k],List.mem_take_iff_getElem.2 ⟨k,by omega,rfl⟩,by rw [<-e];exact ay hj⟩
def uQ(x:Cf)(n:Nat):List Lit:=(x.gs.take n).flatMap fun t=>t.cO.map fun q=>Lit.int .i64 q.number
def uS(x:Cf)(n:Nat):List Lit:=(x.gs.take n).flatMap fun t=>t.strs.map (Lit.int .u32)
theorem UR(x:Cf)(n:Nat)(hn:n<x.gs.length):uQ x (n+1)=uQ x n++x.gs[n].cO.map fun q=>Lit.int .i64 q.number:=by
 unfold uQ;rw [aO hn,List.flatMap_append];simp
theorem UU(x:Cf)(n:Nat)(hn:n<x.gs.length):uS x (n+1)=uS x n++x.gs[n].strs.map (Lit.int .u32):=by
 unfold uS;rw [aO hn,List.flatMap_append];simp
def Dh(x:Cf)(n:Nat)(t:Gs)(i:Nat):List Lit:=uQ x n++(t.cO.take i).map fun q=>Lit.int .i64 q.number
def Di(x:Cf)(n:Nat)(t:Gs)(i:Nat):List Lit:=uS x n++(t.strs.take i).map (Lit.int .u32)
theorem UW(x:Cf)(n:Nat)(t:Gs)(i:Nat)(hi:i<t.cO.length):Dh x n t (i+1)=Dh x n t i++ [.int .i64 t.cO[i].number]:=by
 unfold Dh;rw [aO hi,List.map_append,List.append_assoc]
 rfl
theorem UY(x:Cf)(n:Nat)(t:Gs)(i:Nat)(hi:i<t.strs.length):Di x n t (i+1)=Di x n t i++ [.int .u32 t.strs[i]]:=by
 unfold Di;rw [aO hi,List.map_append,List.append_assoc]
 rfl
theorem X0(x:Cf)(n:Nat)(hn:n<x.gs.length):Dh x n x.gs[n] x.gs[n].cO.length=uQ x (n+1):=by
 unfold Dh;rw [List.take_length,UR x n hn]
theorem X4(x:Cf)(n:Nat)(hn:n<x.gs.length):Di x n x.gs[n] x.gs[n].strs.length=uS x (n+1):=by
 unfold Di;rw [List.take_length,UU x n hn]
theorem AZ{α β:Type}(k:β->Lit)(f:α->List β)(l:List α):(l.flatMap fun t=>(f t).map k)=((l.map f).flatten).map k:=by
 induction l with
 |nil=>rfl
 |cons t l ih=>rw [List.flatMap_cons,ih,List.map_cons,List.flatten_cons,List.map_append]
theorem X5(x:Cf)(n i:Nat)(v:Int)(hn:n<x.gs.length):(!tJ (Dh x n x.gs[n] i) (.int .i64 v))=yU (x.gs.map fun u=>u.cO.map Ir.number) n i v:=by
 rw [SE _ _ _ _ (by rw [List.length_map];exact hn)]
 congr 1
 have e:Dh x n x.gs[n] i=(((x.gs.map fun u=>u.cO.map Ir.number).take n).flatten++((x.gs.map fun u=>u.cO.map Ir.number).getD n []).take i).map (Lit.int .i64):=by
  unfold Dh uQ;rw [List.map_append,List.getD_eq_getElem?_getD,List.getElem?_map,aF hn,Option.map_some,Option.getD_some, <-List.map_take, <-List.map_take,List.map_map]
  congr 1
  rw [<-AZ]
  congr 1
  funext t
  rw [List.map_map]
  rfl
 rw [e,SG]
theorem X6(x:Cf)(n i:Nat)(v:Int)(hn:n<x.gs.length):(!tJ (Di x n x.gs[n] i) (.int .u32 v))=yU (x.gs.map Gs.strs) n i v:=by
 rw [SE _ _ _ _ (by rw [List.length_map];exact hn)]
 congr 1
 have e:Di x n x.gs[n] i=(((x.gs.map Gs.strs).take n).flatten++((x.gs.map Gs.strs).getD n []).take i).map (Lit.int .u32):=by
  unfold Di uS;rw [List.map_append,List.getD_eq_getElem?_getD,List.getElem?_map,aF hn,Option.map_some,Option.getD_some, <-List.map_take]
  congr 1
  rw [<-AZ]
 rw [e,SG]
def UZ(b:Bd)(x:Cf)(n:Nat)(t:Gs)(i:Nat):Bool:=match t.cO[i]? with
 |none=>true
 |some q=>JQ b t q&& !tJ (Dh x n t i) (.int .i64 q.number)
def U0(b:Bd)(x:Cf)(n:Nat)(t:Gs)(i:Nat):Bool:=match t.strs[i]? with
 |none=>true
 |some q=>decide (q<b.strs)&& !tJ (Di x n t i) (.int .u32 q)
theorem aaS{b:Bd}{x:Cf}(hb:Aj x){n:Nat}(hn:n<x.gs.length)(hp:∀q∈x.gs[n].cO,0<=q.cpu):yX b x n x.gs[n]=(List.range x.gs[n].cO.length).all (UZ b x n x.gs[n]):=by
 have hc:=(hb.gs _ (ay hn)).gX;unfold rP at hc;unfold yX;refine wO fun i hi=> ?_;unfold UZ;rw [aF hi];simp only;rw [adx hc (hp _ (ay hi)),X5 x n i _ hn]
theorem aaT{b:Bd}{x:Cf}{n:Nat}(hn:n<x.gs.length):Ba b x n x.gs[n]=(List.range x.gs[n].strs.length).all (U0 b x n x.gs[n]):=by
 unfold Ba;refine wO fun i hi=> ?_;unfold U0;rw [aF hi];simp only;rw [X6 x n i _ hn]
def pK(x:Cf)(n:Nat):List Sp:=(List.range n).flatMap fun i:Nat=>gU x (i:Int)
theorem Dj(x:Cf)(n:Nat):pK x (n+1)=pK x n++gU x (n:Int):=by
 unfold pK;rw [List.range_succ,List.flatMap_append];simp
def uT(l:List Sp):Prop:=l.Pairwise fun x y=>overlap x y=false
theorem Jd(x:Cf)(n:Nat):uU x n=true↔uT (gU x (n:Int))/\ ∀i,i<n->∀s∈gU x (i:Int),∀t∈gU x (n:Int),overlap s t=false:=by
 unfold uU;simp only [Bool.and_eq_true,Bool.not_eq_true',List.all_eq_true,List.mem_range];rw [kQ];unfold rU
 constructor
 · rintro⟨h1,h2⟩
   refine⟨h1,fun i hi s hs t ht=> ?_⟩;obtain⟨j,hj,rfl⟩:=List.getElem_of_mem ht;have:=h2 i hi j hj;rw [<-Bool.not_eq_true,List.any_eq_true]at this;rw [pF, <-Bool.not_eq_true];intro ho
   apply this
   refine⟨s,hs, ?_⟩;rw [List.getD_eq_getElem?_getD,aF hj,Option.getD_some];exact ho
 · rintro⟨h1,h2⟩
   refine⟨h1,fun i hi j hj=> ?_⟩;rw [<-Bool.not_eq_true,List.any_eq_true];rintro⟨s,hs,ho⟩;rw [List.getD_eq_getElem?_getD,aF hj,Option.getD_some,pF]at ho;rw [h2 i hi s hs _ (ay hj)]at ho;cases ho
theorem Dk{x:Cf}{n:Nat}{s:Sp}:s∈pK x n↔∃i,i<n/\ s∈gU x (i:Int):=by
 unfold pK;simp [List.mem_flatMap]
theorem Dl{x:Cf}:∀n,(∀i,i<n->uU x i=true)->uT (pK x n)
 |0,_=>List.Pairwise.nil
 |n+1,h=>by
  have hn:=(Jd x n).1 (h n (by omega));rw [Dj];refine List.pairwise_append.2 ⟨Dl n fun i hi=>h i (by omega),hn.1,fun s hs t ht=> ?_⟩;obtain⟨i,hi,hsi⟩:=Dk.1 hs;exact hn.2 i hi s hsi t ht
theorem ady{x:Cf}{n:Nat}(h:uT (pK x n)):(!iD (pK x n++gU x (n:Int)))=uU x n:=by
 rw [Bool.eq_iff_iff,Jd,Bool.not_eq_true',kQ]
 constructor
 · intro hp
   obtain⟨_,h2,h3⟩:=List.pairwise_append.1 hp;exact⟨h2,fun i hi s hs t ht=>h3 s (Dk.2 ⟨i,hi,hs⟩) t ht⟩
 · rintro⟨h1,h2⟩
   refine List.pairwise_append.2 ⟨h,h1,fun s hs t ht=> ?_⟩;obtain⟨i,hi,hsi⟩:=Dk.1 hs;exact h2 i hi s hsi t ht
def uV(x:Cf)(k:Nat):List Sp:=pK x x.gs.length++(x.dH.take k).map J4
theorem Je(x:Cf)(k:Nat)(hk:k<x.dH.length):uV x (k+1)=uV x k++ [J4 x.dH[k]]:=by
 unfold uV;rw [aO hk,List.map_append,List.append_assoc]
 rfl
def Jf(b:Bd)(x:Cf)(k:Nat)(s:Sp):Bool:=eG s&&(yO b s&& !iD (uV x k++ [s]))
theorem Qb{l:List Sp}{s:Sp}(h:uT l):(!iD (l++ [s]))=l.all fun o=> !overlap o s:=by
 rw [Bool.eq_iff_iff,Bool.not_eq_true',kQ,List.all_eq_true]
 constructor
 · intro hp
   obtain⟨_,_,h3⟩:=List.pairwise_append.1 hp;intro o ho;rw [h3 o ho s (List.mem_singleton.2 rfl)];rfl
 · intro hh
   refine List.pairwise_append.2 ⟨h,List.pairwise_singleton _ _,fun o ho t ht=> ?_⟩;rw [List.mem_singleton.1 ht];have:=hh o ho
   simpa using this
theorem zL{b:Bd}{x:Cf}(h:uT (pK x x.gs.length)):∀k,k<=x.dH.length->(∀i (hi:i<x.dH.length),i<k->Jf b x i (J4 x.dH[i])=true)->uT (uV x k)
 |0,_,_=>by unfold uV;simpa using h
 |k+1,hk,hh=>by
  have ih:=(zL (b:=b) h k (by omega) fun i hi hlt=>hh i hi (by omega));have hc:=hh k (by omega) (by omega);unfold Jf at hc;simp only [Bool.and_eq_true]at hc;rw [Je x k (by omega)];have:=hc.2.2;rw [Bool.not_eq_true',kQ]at this;exact this
theorem SH{b:Bd}{x:Cf}(hd:∀t∈x.gs,t.dG.all (vG b)=true)(k:Nat)(hk:k<x.dH.length)(ha:uT (uV x k)):Jf b x k (J4 x.dH[k])=tZ b x k x.dH[k]:=by
 unfold Jf tZ;rw [Qb ha];obtain⟨s,hs⟩:=aqx (J4 x.dH[k]);rw [<-hs];unfold yO;cases hp:eG s with
 |false=>rfl
 |true=>
  cases hw:within s b.r with
  |false=>rfl
  |true=>
   cases ho:overlap s b.l with
   |true=>rfl
   |false=>
    simp only [Bool.true_and,Bool.not_false];rw [Bool.eq_iff_iff];simp only [List.all_eq_true,Bool.and_eq_true,Bool.not_eq_true']
    constructor
    · intro h
      refine⟨fun t ht v hv=> ?_,fun u hu=> ?_⟩
      · obtain⟨i,hi,rfl⟩:=List.getElem_of_mem ht
        rw [pF];refine h _ (List.mem_append.2 (.inl (Dk.2 ⟨i,hi, ?_⟩)));unfold gU;rw [mJ hi];simp only;rw [qY];exact List.mem_append.2 (.inl (List.mem_map.2 ⟨v,hv,rfl⟩))
      · rw [pF]
        exact h _ (List.mem_append.2 (.inr (List.mem_map.2 ⟨u,hu,rfl⟩)))
    · rintro⟨h1,h2⟩ o ho2
      rw [pF];rcases List.mem_append.1 ho2 with h3|h3
      · obtain⟨i,hi,hsi⟩:=Dk.1 h3
        rcases X7 hi hsi with⟨y,hy,rfl⟩|⟨y,hy,rfl⟩
        · exact h1 _ (ay hi) y hy
        · have:=List.all_eq_true.1 (hd _ (ay hi)) y hy
          unfold vG at this;simp only [Bool.and_eq_true,Bool.not_eq_true']at this;rw [<-Bool.not_eq_true];intro hov;rw [pF]at hov;have h4:=Qc hov hw;rw [this.2.2]at h4;cases h4
      · obtain⟨u,hu,rfl⟩:=List.mem_map.1 h3
        exact h2 u hu
open Go.RowKit Go.Maps
attribute [local go_sem ↓ high] jo xE
theorem Jg{α:Type}{l:List α}{q:α->Bool}{V w':World}{e:Ending}{n0:Nat}(h:∃r,e= .returned (.bool r)/\ dw n0 V w'/\ (r=true->Below V.heap.size V w'/\ ∀j (hj:j<l.length),j<l.length->q l[j]= !false)/\ (r=false->∃i,i<l.length/\ Below V.heap.size V w'/\ ∃hi:i<l.length,q l[i]=false)):jc (l.all q) V e w':=by
 obtain⟨r,rfl,-,h1,h2⟩:=h;cases r with
 |true=>exact⟨by rw [Qd fun i hi=>(h1 rfl).2 i hi hi],(h1 rfl).1⟩
 |false=>
  obtain⟨i,hi,hB,hi2,hq⟩:=h2 rfl;exact⟨by rw [vg (f:=q) hi2 hq],hB⟩
theorem U1(p:Nat)(b:Bd)(hf:sH b=true)(hr:fit b.r)(hl:fit b.l)(l:List Wi)(hn:l.length<=1000000)(hy:∀y∈l,KW y)(A:Option Addr)(B c:Nat)(V:World)(hk:KB V p b)(hrow:bI 4 bG V B A l)(hB:B<=V.heap.size):
  Calls Tryz.prog 41 #[.slice A l.length c,.func (.func 42) #[.pointer (some ⟨p,0,none⟩)] #[]] V (jc (l.all (xO b)) V):=by
 have eL:∀args w,(callFunc 42 args).run Tryz.prog w= .ok (.enter 42 args) w:=enters_of Tryz.func42 (by kernel_rfl) rfl;have hq:=aaU A B c l hn 42 #[.pointer (some ⟨p,0,none⟩)] #[] V.heap.size _ _ (Asks.pure (V:=V) (q:=xO b) (n0:=V.heap.size) (Rw:=fun Y=>bI 4 bG Y B A l) false
  (fun Y hY=>hrow.below (hY.mono hB)) eL
  (fun i hi Y hY=>by
   have:=NP p b l[i] (hy _ (ay hi)) hr hl Y (hk.under hY);rw [adz hf]at this;exact this)) V (aj _) ⟨aC _ _,fun j _ hj=>by omega⟩
 exact hq.mono fun e w' h=>Jg h
theorem U2(p:Nat)(b:Bd)(hr:fit b.r)(l:List De)(hn:l.length<=1000000)(hy:∀y∈l,W9 y)(A:Option Addr)(B c:Nat)(V:World)(hk:KB V p b)(hrow:bI 3 iC V B A l)(hB:B<=V.heap.size):
  Calls Tryz.prog 43 #[.slice A l.length c,.func (.func 44) #[.pointer (some ⟨p,0,none⟩)] #[]] V (jc (l.all (vG b)) V):=by
 have eL:∀args w,(callFunc 44 args).run Tryz.prog w= .ok (.enter 44 args) w:=enters_of Tryz.func44 (by kernel_rfl) rfl;have hq:=aaV A B c l hn 44 #[.pointer (some ⟨p,0,none⟩)] #[] V.heap.size _ _ (Asks.pure (V:=V) (q:=vG b) (n0:=V.heap.size) (Rw:=fun Y=>bI 3 iC Y B A l) false
  (fun Y hY=>hrow.below (hY.mono hB)) eL
  (fun i hi Y hY=>by
   have:=NQ p b l[i] (hy _ (ay hi)) hr Y (hk.under hY);rw [adA]at this;exact this)) V (aj _) ⟨aC _ _,fun j _ hj=>by omega⟩
 exact hq.mono fun e w' h=>Jg h
theorem tH.low{K:TypeId}{m n:Nat}{L:List Lit}{q:Bool}{w V w':World}{e:Ending}(h:tH K m n L q V e w')(hb:Below w.heap.size w V):tH K m n L q w e w':=by
 obtain⟨r,h1,h2,h3,h4⟩:=h;exact⟨r,h1,h2,h3,(aH hb).trans h4⟩
theorem U3(p r2 r5:Nat)(b:Bd)(t:Gs)(hc:0<=t.gX/\ t.gX<=4294967295)(m n:Nat)(L:List Lit)(q:Ir)(hq:0<=q.cpu/\ q.cpu<=65535)(hv:yI q.number)(w:World)(h:KB w p b)(hpm:p≠m)(h10:w.cell? ⟨p,10,none⟩=some (.map (some m)))(hs:gJ 3 w m n L)(hn:n<=1000000)
  (c2:w.cell? ⟨r2,0,none⟩=some (.pointer (some ⟨p,0,none⟩))) (c5:w.cell? ⟨r5,4,none⟩=some (.int .u32 t.gX)):
  Calls Tryz.prog 48 #[.agg (vec 3 (dV q)),.pointer (some ⟨r2,0,none⟩),.pointer (some ⟨r5,0,none⟩)] w (tH 3 m (n+1) (L++ [.int .i64 q.number]) (JQ b t q&& !tJ L (.int .i64 q.number)) w):=by
 obtain⟨r3,hr3⟩:=aqx (w.heap.size);obtain⟨V,hV⟩:=aqx (w.alloc (.cells (vec 3 (dV q)) 65));have hb:Below w.heap.size w V:=(by rw [hV];exact Below.aY w _);have HA:Hid (aU V r3 65 3 (dV q)):=ah (by rw [hV,hr3];exact aU.new _ _ _ _);have d2:V.cell? ⟨r2,0,none⟩=some (.pointer (some ⟨p,0,none⟩)):=(hb.cell (p:=⟨r2,0,none⟩) (lt_of_cell c2)).trans c2;obtain⟨C,hC⟩:=aqx (t.gX);have d5:V.cell? ⟨r5,4,none⟩=some (.int .u32 C):=(by rw [hC];exact(hb.cell (p:=⟨r5,4,none⟩) (lt_of_cell c5)).trans c5);have HI:=ah (Xk p b t hc m n L q hq hv V (h.under hb) hpm ((hb.cell (p:=⟨p,10,none⟩) h.1).trans h10) (hs.under hb) hn);rw [<-hC]at HI;obtain⟨Q,hQ⟩:=aqx (tH 3 m (n+1) (L++ [.int .i64 q.number]) (JQ b t q&& !tJ L (.int .i64 q.number)) w);have HQ:Hid (∀r w',tH 3 m (n+1) (L++ [.int .i64 q.number]) (JQ b t q&& !tJ L (.int .i64 q.number)) V (.returned (.bool r)) w'->Q (.returned (.bool r)) w'):=ah fun r w' hh=>by rw [hQ];exact hh.low hb
 have HV:=ah hV;have HR:=ah hr3;rw [<-hQ];clear hc hq hv h hpm h10 hs hn c2 c5 hV hr3 hb hC hQ;go_enter Tryz.func48,Tryz.ntmps48;go_upto_region 1 with fail
 rw [<-HV.out, <-HR.out];clear HV HR;go_wp2_with(first
  |((with_reducible refine aqy (.load 65 _) ?_);refine bM rfl 65 _ rfl r3 rfl _ (aQ HA.out Tryz.underlying65 rfl rJ) ?_)
  |(go_at_call 49;refine HI.out.mono ?_;intro e w1 hh;obtain⟨r,rfl,h2,h3,h4⟩:=hh;have HX:=ah (ak h2 (ak h3 h4));clear h2 h3 h4))
 exact HQ.out r _ ⟨r,rfl,HX.out⟩
section
variable {B : Nat} {p m1 m2 m3 m4 base : Nat} {b : Bd} {wh : Int} {N : Nat} {L1 L2 L3 L4 : List Lit} {mem : List Sp}
theorem U4{x:Cf}(hb:Aj x)(n:Nat)(hn:n<x.gs.length)(hlen:x.gs[n].cO.length<=100)(hp:∀q∈x.gs[n].cO,0<=q.cpu/\ q.cpu<=65535)(r2 r5 c:Nat)(A:Option Addr)(V:World)(hs:mM B V p m1 m2 m3 m4 base b wh N L1 L2 (uQ x n) L4 mem)(hN:N<=100000)
  (hrow:bI 3 dV V B A x.gs[n].cO) (h2:base<=r2) (h5:base<=r5) (c2:V.cell? ⟨r2,0,none⟩=some (.pointer (some ⟨p,0,none⟩))) (c5:V.cell? ⟨r5,4,none⟩=some (.int .u32 x.gs[n].gX)):
  Calls Tryz.prog 47 #[.slice A x.gs[n].cO.length c,.func (.func 48) #[] #[.pointer (some ⟨r2,0,none⟩),.pointer (some ⟨r5,0,none⟩)]] V fun e w'=>∃r,e= .returned (.bool r)/\ r=yX b x n x.gs[n]/\ Save m3 V w'/\ (r=true->mM B w' p m1 m2 m3 m4 base b wh (N+100) L1 L2 (uQ x (n+1)) L4 mem):=by
 have eL:∀args w,(callFunc 48 args).run Tryz.prog w= .ok (.enter 48 args) w:=enters_of Tryz.func48 (by kernel_rfl) rfl;have hord:=hs.ord;have hcp:=(hb.gs _ (ay hn)).gX;unfold rP at hcp;have H:Asks x.gs[n].cO (fun y=>Value.agg (vec 3 (dV y))) 48 #[] #[.pointer (some ⟨r2,0,none⟩),.pointer (some ⟨r5,0,none⟩)] false V.heap.size (fun W=>bI 3 dV W B A x.gs[n].cO)
   (fun i W=>mM B W p m1 m2 m3 m4 base b wh (N+i) L1 L2 (Dh x n x.gs[n] i) L4 mem/\ Save m3 V W/\ ∀j,j<i->UZ b x n x.gs[n] j=true)
   (fun i W=>Save m3 V W/\ UZ b x n x.gs[n] i=false):= {
  row:=fun i W h=>hrow.below (h.2.1.below (by omega) (by omega))
  keep:=fun i W W' h hB=>⟨h.1.under hB,h.2.1.trans (aH hB),h.2.2⟩
  uj:=fun i W W' h hB=>⟨h.1.trans (aH hB),h.2⟩
  enters:=eL
  call:=fun i hi W h=>by
   have hne:=h.1.ne;refine Calls.mono (U3 p r2 r5 b x.gs[n] hcp m3 (N+i) (Dh x n x.gs[n] i) x.gs[n].cO[i] (hp _ (ay hi)) ((hb.gs _ (ay hn)).cO _ (ay hi)).1 W h.1.kb hne.2.2.1 h.1.cell.2.2.2.1 h.1.s3 (by omega)
     ((h.2.1.cell (p:=⟨r2,0,none⟩) (lt_of_cell c2) (by show r2≠m3;omega)).trans c2) ((h.2.1.cell (p:=⟨r5,4,none⟩) (lt_of_cell c5) (by show r5≠m3;omega)).trans c5)) ?_
   rintro e W' ⟨r,rfl,hr,hset,hsv⟩;have hR:UZ b x n x.gs[n] i=r:=(by unfold UZ;rw [aF hi];exact hr.symm);refine⟨r,rfl,dw.yt hsv (by have:=h.1.ord;omega),fun e=>⟨h.2.1.trans hsv,by rw [hR,e]⟩,fun e=> ?_⟩;have et:r=true:=e;refine⟨?_,h.2.1.trans hsv,fun j hj=> ?_⟩
   · have:=h.1.take3 (N':=N+i+1) (by omega) hsv (hset et)
     rw [UW x n x.gs[n] i hi];exact this
   · rcases Nat.lt_or_ge j i with h1|h1
     · exact h.2.2 j h1
     · obtain rfl:j=i:=by omega
       rw [hR,et] }
 have hI0:Dh x n x.gs[n] 0=uQ x n:=(by unfold Dh;simp);have hq:=aaW A B c x.gs[n].cO (by omega) 48 #[] #[.pointer (some ⟨r2,0,none⟩),.pointer (some ⟨r5,0,none⟩)] V.heap.size _ _ H V (aj _) ⟨by rw [hI0];exact hs,aI _ _,fun j hj=>by omega⟩;refine hq.mono ?_;rintro e w' ⟨r,rfl,-,h1,h2⟩;rw [aaS hb hn fun q hq=>(hp q hq).1];cases r with
 |true=>
  obtain⟨k1,k2,k3⟩:=h1 rfl;refine⟨true,rfl,(List.all_eq_true.2 fun i hi=>k3 i (List.mem_range.1 hi)).symm,k2,fun _=> ?_⟩;rw [X0 x n hn]at k1;exact k1.wide (by omega)
 |false=>
  obtain⟨i,hi,k1,k2⟩:=h2 rfl;exact⟨false,rfl,(vg (l:=List.range x.gs[n].cO.length) (i:=i) (by simpa using hi) (by simpa using k2)).symm,k1,fun h=>by cases h⟩
theorem Va{x:Cf}(hb:Aj x)(n:Nat)(hn:n<x.gs.length)(hlen:x.gs[n].strs.length<=100)(hst:0<=b.strs/\ b.strs<=256)(c:Nat)(A:Option Addr)(V:World)(hs:mM B V p m1 m2 m3 m4 base b wh N L1 L2 L3 (uS x n) mem)(hN:N<=100000)
  (hrow:bI 1 mP V B A x.gs[n].strs):
  Calls Tryz.prog 50 #[.slice A x.gs[n].strs.length c,.func (.func 51) #[.pointer (some ⟨p,0,none⟩)] #[]] V fun e w'=>∃r,e= .returned (.bool r)/\ r=Ba b x n x.gs[n]/\ Save m4 V w'/\ (r=true->mM B w' p m1 m2 m3 m4 base b wh (N+100) L1 L2 L3 (uS x (n+1)) mem):=by
 have eL:∀args w,(callFunc 51 args).run Tryz.prog w= .ok (.enter 51 args) w:=enters_of Tryz.func51 (by kernel_rfl) rfl;have hord:=hs.ord;have H:Asks x.gs[n].strs (fun y=>Value.int .u32 y) 51 #[.pointer (some ⟨p,0,none⟩)] #[] false V.heap.size (fun W=>bI 1 mP W B A x.gs[n].strs)
   (fun i W=>mM B W p m1 m2 m3 m4 base b wh (N+i) L1 L2 L3 (Di x n x.gs[n] i) mem/\ Save m4 V W/\ ∀j,j<i->U0 b x n x.gs[n] j=true)
   (fun i W=>Save m4 V W/\ U0 b x n x.gs[n] i=false):= {
  row:=fun i W h=>hrow.below (h.2.1.below (by omega) (by omega))
  keep:=fun i W W' h hB=>⟨h.1.under hB,h.2.1.trans (aH hB),h.2.2⟩
  uj:=fun i W W' h hB=>⟨h.1.trans (aH hB),h.2⟩
  enters:=eL
  call:=fun i hi W h=>by
   have hq:=(hb.gs _ (ay hn)).strs _ (ay hi);unfold rP at hq;refine Calls.mono (L8 p b hst m4 (N+i) (Di x n x.gs[n] i) x.gs[n].strs[i] hq W h.1.kb h.1.cell.2.2.2.2.1 h.1.s4 (by omega)) ?_;rintro e W' ⟨r,rfl,hr,hset,hsv⟩;have hR:U0 b x n x.gs[n] i=r:=(by unfold U0;rw [aF hi];exact hr.symm);refine⟨r,rfl,dw.yt hsv (by have:=h.1.ord;omega),fun e=>⟨h.2.1.trans hsv,by rw [hR,e]⟩,fun e=> ?_⟩;have et:r=true:=e;refine⟨?_,h.2.1.trans hsv,fun j hj=> ?_⟩
   · have:=h.1.afu (N':=N+i+1) (by omega) hsv (hset et)
     rw [UY x n x.gs[n] i hi];exact this
   · rcases Nat.lt_or_ge j i with h1|h1
     · exact h.2.2 j h1
     · obtain rfl:j=i:=by omega
       rw [hR,et] }
 have hI0:Di x n x.gs[n] 0=uS x n:=(by unfold Di;simp);have hq:=X8 A B c x.gs[n].strs (by omega) 51 #[.pointer (some ⟨p,0,none⟩)] #[] V.heap.size _ _ H V (aj _) ⟨by rw [hI0];exact hs,aI _ _,fun j hj=>by omega⟩;refine hq.mono ?_;rintro e w' ⟨r,rfl,-,h1,h2⟩;rw [aaT hn];cases r with
 |true=>
  obtain⟨k1,k2,k3⟩:=h1 rfl;refine⟨true,rfl,(List.all_eq_true.2 fun i hi=>k3 i (List.mem_range.1 hi)).symm,k2,fun _=> ?_⟩;rw [X4 x n hn]at k1;exact k1.wide (by omega)
 |false=>
  obtain⟨i,hi,k1,k2⟩:=h2 rfl;exact⟨false,rfl,(vg (l:=List.range x.gs[n].strs.length) (i:=i) (by simpa using hi) (by simpa using k2)).symm,k1,fun h=>by cases h⟩
end
open Go.RowKit Go.Shelf
attribute [local go_sem] Oper.semAt_some
attribute [local go_sem ↓ high] nK Fp
theorem Gi{fn:Func}{p q:Tmp}{ty ty2:TypeId}{P:Program}{w:World}(h:fn.results= #[.cell p ty,.cell q ty2])(tmps:Array Value)(g k:Nat)(v u:Value)
  (ha:tmps.getD p undef= .pointer (some ⟨g,0,none⟩)) (hb:tmps.getD q undef= .pointer (some ⟨k,0,none⟩)) (hl:(loadVar ty ⟨g,0,none⟩).run P w= .ok v w) (hm:(loadVar ty2 ⟨k,0,none⟩).run P w= .ok u w):(results fn tmps).run P w= .ok (.tuple #[v,u]) w:=by
 have hp':tmps[p]?.getD undef= .pointer (some ⟨g,0,none⟩):=(by simpa using ha);have hq':tmps[q]?.getD undef= .pointer (some ⟨k,0,none⟩):=(by simpa using hb);simp [results,h,hp',hq',asAddr,hl,hm]
theorem fB.Qe{w:World}{g:Nat}{t:TypeId}{cs:Array Value}(h:fB w g t cs)(i:Nat):w.frozen? ⟨g,i,none⟩=false:=by
 unfold fB at h;simp [World.frozen?,h]
theorem fB.set{w:World}{g:Nat}{t:TypeId}{cs:Array Value}(h:fB w g t cs)(i:Nat)(u:Value):fB (w.setCell ⟨g,i,none⟩ u) g t (cs.setIfInBounds i u):=by
 unfold fB at h⊢;simp [World.setCell,Array.getElem?_modify,h]
theorem fB.far{w:World}{g:Nat}{t:TypeId}{cs:Array Value}(h:fB w g t cs){q:Addr}(hq:g≠q.block)(u:Value):fB (w.setCell q u) g t cs:=by
 unfold fB at h⊢;rw [Below.heap_setCell w q u g hq];exact h
theorem fB.put{w:World}{g D:Nat}{t:TypeId}{cs:Array Value}{o:Obj}(h:fB w g t cs)(hne:g≠D):fB (w.putObj D o) g t cs:=(World.putObj_heap_other hne).trans h
theorem uI{B g:Nat}{t:TypeId}{cs:Array Value}{X Y:World}{row:Option Nat}(h:fB X g t cs)(hg:X.grownBy Y row)(hr:∀r,row=some r->B<=r/\ ∃o:Obj,X.heap[r]?=some o/\ o.isCells=false):fB Y g t cs:=
 (hg.block g h.lt fun e=>by
  obtain⟨_,o,ho,hc⟩:=hr g e.symm;rw [show X.heap[g]?=_ from h]at ho;cases ho
  cases hc).trans h
theorem X9{B base:Nat}{v:Value}{l:List Rk}{X Y:World}{row:Option Nat}(h:Au X base v l)(hg:X.grownBy Y row)(hr:∀r,row=some r->B<=r/\ ∃o:Obj,X.heap[r]?=some o/\ o.isCells=false):Au Y base v l:=by
 refine⟨h.1, ?_⟩;rcases h.2 with h2|⟨g,cap,cur,rfl,hb,hh,r⟩
 · exact .inl h2
 · exact .inr ⟨g,cap,cur,rfl,hb,uI (cs:=cur) (t:=145) hh hg hr,r⟩
theorem yu{B:Nat}{w X Y:World}{row:Option Nat}(h:Below w.heap.size w X)(hB:w.heap.size<=B)(hg:X.grownBy Y row)(hr:∀r,row=some r->B<=r/\ ∃o:Obj,X.heap[r]?=some o/\ o.isCells=false):Below w.heap.size w Y:=
 h.grown hg h.size fun k e=>by have:=(hr k e).1;omega
theorem Gj{w:World}{g:Nat}{t ty e:TypeId}{A:Option Addr}{n c:Nat}(h:fB w g t #[.slice A n c])(hu:Tryz.prog.underlying ty=some (.slice e)):(loadVar ty ⟨g,0,none⟩).run Tryz.prog w= .ok (.slice A n c) w:=by
 have hc:=h.cellAt 0 (v:= .slice A n c) rfl;simp [loadVar,isAgg,run_underlying hu,run_load,hc]
theorem Gl{w:World}{g:Nat}{t ty:TypeId}{b:Bool}(h:fB w g t #[.bool b])(hu:Tryz.prog.underlying ty=some .bool):(loadVar ty ⟨g,0,none⟩).run Tryz.prog w= .ok (.bool b) w:=by
 have hc:=h.cellAt 0 (v:= .bool b) rfl;simp [loadVar,isAgg,run_underlying hu,run_load,hc]
def D5(x:Cf)(g:Int):Bool:=(fP x g).all fun y=>JO y.m
def Jh(x:Cf)(g:Int)(w:World)(e:Ending)(w':World):Prop:=
 if D5 x g=true then∃ (v:Value) (r:List Rk),e= .returned (.tuple #[v,.bool true])/\ r.Perm (fP x g)/\ yY r/\ Au w' w.heap.size v r/\ Below w.heap.size w w'
 else e= .returned (.tuple #[.slice none 0 0,.bool false])/\ Below w.heap.size w w'
theorem zM{x:Cf}(g:Int)(hf:qU x=true):(fP x g).length<=1000:=by
 unfold fP;cases h:nR x g with
 |none=>simp
 |some t=>
  obtain⟨-,hfc,hfa⟩:=iI hf;have ht:t∈x.gs:=by
   unfold nR at h
   split at h
   · cases h
   · exact List.mem_of_getElem? h
  have hfew:=jZ (hfa _ ht);have:=yw g x.dH;simp only;unfold mQ;rw [List.length_append,List.length_append,List.length_map,List.length_map,List.length_map];have:=hfew.1;have:=hfew.2.1;omega
structure GI(w w1:World)(s:Nat)(pre:List RB)(W:World):Prop where
 own:∃v,fB W (s+3) 151 #[v]/\ Au W w1.heap.size v (pre.map Subtype.val)
 good:∀y∈pre,JO y.1.m=true
 res:fB W (s+1) 151 #[.slice none 0 0]
 bel:Below w.heap.size w W
 kn:KN w.heap.size 0 w1 W
structure GX(w:World)(s:Nat)(cd:Code)(pre:List RB)(W:World):Prop where
 ret:cd= .ret
 bad:∃y∈pre,JO y.1.m=false
 r1:fB W (s+1) 151 #[.slice none 0 0]
 r2:fB W (s+2) 4 #[.bool false]
 bel:Below w.heap.size w W
theorem adB{w w1:World}{s:Nat}(h:w.heap.size<=w1.heap.size):OwnFrom w1.heap.size (GI w w1 s):=fun pre X Y row hs hg hr=>
 ⟨by obtain⟨v,h1,h2⟩:=hs.own;exact⟨v,uI h1 hg hr,X9 h2 hg hr⟩,hs.good,uI hs.res hg hr,yu hs.bel h hg hr,Py h (aj _) () X Y row hs.kn hg hr⟩
theorem Ya{w w1:World}{s:Nat}(h:w.heap.size<=w1.heap.size)(cd:Code):OwnFrom w1.heap.size (GX w s cd):=fun _ _ _ _ hs hg hr=>
 ⟨hs.ret,hs.bad,uI hs.r1 hg hr,uI hs.r2 hg hr,yu hs.bel h hg hr⟩
theorem adC{w w1 W:World}{s:Nat}{x:Cf}{g:Int}{ys:List RB}(h:GI w w1 s ys W)(hS:ys.map Subtype.val=fP x g):D5 x g=true:=by
 unfold D5;rw [<-hS,List.all_eq_true];intro y hy;obtain⟨z,hz,rfl⟩:=List.mem_map.1 hy;exact h.good z hz
theorem adD{w W:World}{s:Nat}{x:Cf}{g:Int}{cd:Code}{pre:List RB}(h:GX w s cd pre W)(hS:pre.map Subtype.val<+:fP x g):D5 x g=false:=by
 obtain⟨y,hy,hb⟩:=h.bad;unfold D5;rw [<-Bool.not_eq_true,List.all_eq_true];intro hall;have:=hall y.1 (hS.subset (List.mem_map.2 ⟨y,hy,rfl⟩));rw [hb]at this;cases this
theorem J5(x:Cf)(a c:Value)(g:Int)(w:World)(hx:Ai w w.heap.size x a c)(hb:Aj x)(hf:qU x=true):Calls Tryz.prog 98 #[ji x a c,.int .i64 g] w (Jh x g w):=by
 obtain⟨Q,hQ⟩:=aqx (Jh x g w);have HQY:Hid (∀v r W,D5 x g=true->r.Perm (fP x g)->yY r->Au W w.heap.size v r->Below w.heap.size w W->Q (.returned (.tuple #[v,.bool true])) W):=ah (fun v r W h1 h2 h3 h4 h5=>by rw [hQ];unfold Jh;rw [if_pos h1];exact⟨v,r,rfl,h2,h3,h4,h5⟩);have HQN:Hid (∀W,D5 x g=false->Below w.heap.size w W->Q (.returned (.tuple #[.slice none 0 0,.bool false])) W):=ah (fun W h1 h2=>by rw [hQ];unfold Jh;rw [if_neg (by rw [h1];decide)];exact⟨rfl,h2⟩);rw [<-hQ];clear hQ;obtain⟨s,hs⟩:=aqx (w.heap.size);obtain⟨U,hU⟩:=aqx (((((w.alloc (.cells (vec 3 (eX x.ver a c)) 31)).alloc (.cells #[.slice none 0 0] 151)).alloc (.cells #[.bool false] 4)).alloc (.cells #[.slice none 0 0] 151)).alloc (.cells #[.func (.func 134) #[] #[.pointer (some ⟨w.heap.size+1+1+1,0,none⟩)]] 183));have hsz:U.heap.size=s+5:=(by rw [hU,hs];simp);have Lj:Below w.heap.size w U:=(by rw [hU];exact Laid.below ⟨[_,_,_,_,_],rfl⟩);have u0:aU U s 31 3 (eX x.ver a c):=(by rw [hU,hs];exact((((aU.new _ _ _ _).alloc _).alloc _).alloc _).alloc _);have u1:fB U (s+1) 151 #[.slice none 0 0]:=(by rw [hU,hs];exact(((fB.new _ _ _ (by simp)).alloc _).alloc _).alloc _);have u2:fB U (s+2) 4 #[.bool false]:=(by rw [hU,hs];exact((fB.new _ _ _ (by simp)).alloc _).alloc _);have u3:fB U (s+3) 151 #[.slice none 0 0]:=(by rw [hU,hs];exact(fB.new _ _ _ (by simp)).alloc _);have u4:fB U (s+4) 183 #[.func (.func 134) #[] #[.pointer (some ⟨s+3,0,none⟩)]]:=(by rw [hU,hs];exact fB.new _ _ _ (by simp));have HUU:Hid (U=((((w.alloc (.cells (vec 3 (eX x.ver a c)) 31)).alloc (.cells #[.slice none 0 0] 151)).alloc (.cells #[.bool false] 4)).alloc (.cells #[.slice none 0 0] 151)).alloc (.cells #[.func (.func 134) #[] #[.pointer (some ⟨w.heap.size+1+1+1,0,none⟩)]] 183)):=ah hU;have NS:Hid (w.heap.size=s/\ s+1+1+1+1=s+4/\ s+1+1+1=s+3/\ s+1+1=s+2):=ah ⟨hs.symm,rfl,rfl,rfl⟩;have HX:=ah hx;have HB:=ah hb;have HF:=ah hf;have HU0:=ah u0;have Z9:=ah (ak u1 (ak u2 (ak u3 u4)));have Ll:=ah (ak Lj (ak hsz hs))
 have SI:=ah (zM g hf);unfold ji;clear hx hb hf hU hsz Lj u0 u1 u2 u3 u4 hs;refine(callsIn_wide (n:=10)).1 ?_;refine callsIn_of_wp_marks Tryz.func98 rfl trivial ?_ rfl;simp only [Tryz.ntmps98,List.size_toArray,List.length_cons,List.length_nil,Nat.reduceAdd,Nat.reduceSub,Array.replicate_succ,Array.replicate_zero,List.push_toArray,List.append_toArray,List.nil_append,List.cons_append]
 gi_wp2_with (first
  |((with_reducible show wpListIn _ _ _ _ _ (Oper.mk _ (.load 31 _) _ _ _ _::_) _ _);rw [<-HUU.out];simp only [NS.out.1,NS.out.2.1,NS.out.2.2.1,NS.out.2.2.2];refine jG lG rfl (by intro c e;cases e) (bF 31 _ rfl s rfl _ (aQ HU0.out Tryz.underlying31 rfl dR)) ?_;clear HUU)
  |(refine⟨trivial, ?_⟩;gi_at_call 93;refine(callsIn_wide.2 (IL _ (eX x.ver a c) rfl g _)).mono ?_;rintro e w1 ⟨rfl,hw1⟩;have HW1:=ah hw1;clear hw1))
 have bW:Below U.heap.size U w1:=(by rw [HW1.out];exact((aC _ _).alloc (aj _) _).alloc (by simp) _);have b1:aU w1 U.heap.size 31 3 (eX x.ver a c):=(by rw [HW1.out];exact(aU.new _ _ _ _).alloc _);have b2:fB w1 (U.heap.size+1) 3 #[.int .i64 g]:=(by rw [HW1.out];exact fB.new _ _ _ (by simp));have hz1:w1.heap.size=s+7:=(by rw [HW1.out];simp [Ll.out.2.1]);have hbw:Below w.heap.size w w1:=Ll.out.1.trans (bW.mono Ll.out.1.size);have hsw:w.heap.size=s:=Ll.out.2.2.symm;have c1:=Z9.out.1.under bW;have c2:=Z9.out.2.1.under bW;have c3:=Z9.out.2.2.1.under bW;have c4:=Z9.out.2.2.2.under bW;have hsz:=Ll.out.2.1;have HC:=ah (ak c2 c4);have Qg:=ah (ak hz1 hsw);clear HW1 HU0 Z9 bW;refine Cm (n:=10) (n0:=w.heap.size) (by omega) (by omega) (gf:=130) (lb:= #[.pointer (some ⟨U.heap.size,0,none⟩),.pointer (some ⟨U.heap.size+1,0,none⟩)]) rfl (by intro args W;rfl)
  (IU 9 (by omega) x a c g w w1 HX.out HB.out HF.out hbw U.heap.size (U.heap.size+1) (fP x g).length b1 b2 (aj _)) (aC _ _)
  13 8 rfl 145 6 (fun z=>tq z.1) (fun _=>rfl) (GI w w1 s) (GX w s) (adB (by omega)) (Ya (by omega))
  ⟨⟨_,c3,gW.nil _ _⟩,(fun _ h=>by cases h),c1,hbw,KN.refl _ _ _⟩ (fun l W h=>h.kn.size) ?assign ?body ?done ?stop
 case assign=>
  intro l z W K hK;simp only [List.setIfInBounds_toArray,List.set_cons_zero,List.set_cons_succ]at hK⊢;have HK:=ah hK;clear hK
  gi_wp2_with ((with_reducible show wpListIn _ _ _ _ _ (Oper.mk _ (.store 145 _ _) _ _ _ _::_) _ _);refine ni rfl 145 _ _ rfl _ rfl _ rfl (aS (aU.new W _ _ _) (tq z.1) zF (EH _ _)) ?_)
  exact HK.out _ (bg ((aC _ _).alloc (aj _) _) (aj _) _) ((aU.new W _ _ _).row _)
 case body=>
  intro lq pre z r W hr hi ha hlen;simp only [List.setIfInBounds_toArray,List.set_cons_zero,List.set_cons_succ];obtain⟨v,hv1,hv2⟩:=hi.own;obtain⟨A,d,rfl,-,-,hbk⟩:=hv2.form;have d4:=(hi.kn.blk HC.out.2 (by decide)).cellAt 0 rfl;have d2:=hi.kn.blk HC.out.1 (by decide);have hzz:=hi.kn.size;have hpl:(pre.map Subtype.val).length<=100000:=(by rw [List.length_map];have:=SI.out;omega);have Bc:=ah (put_any z.1 z.2 (s+3) w1.heap.size _ (pre.map Subtype.val) W hv1 hv2 hzz hpl (by omega));have HI:=ah hi;have HV1:=ah hv1;have Yb:=ah hv2;have Z5:=ah ha;have HD2:=ah d2;obtain⟨b,hb⟩:=aqx (JO z.1.m);rw [<-hb]at Bc;have Ld:=ah hb;clear hv1 hv2 ha hi hlen hr hbk hb hpl d2;cases b
  · gi_upto_region 6 with(first
      |((with_reducible show wpListIn _ _ _ _ _ (Oper.mk _ (.load 145 _) _ _ _ _::_) _ _);refine jG (Ar _) rfl (by intro c e;cases e) (bF 145 _ rfl r rfl _ (aQ Z5.out Tryz.underlying145 rfl zF)) ?_)
      |(refine⟨trivial, ?_⟩;gi_at_call 134;refine(CallsIn.inRound lq (callsIn_wide.2 Bc.out)).mono ?_;rintro e W3 ⟨rfl,hpf,-⟩;have Vb:=ah hpf;clear hpf))
    have hne1:∀k,k<s+7->some k≠(Value.slice A (pre.map Subtype.val).length d).ownBlock:=fun k hk e=>by have:=(Yb.out.bnd e.symm).1;omega
    have k1:fB W3 (s+1) 151 #[.slice none 0 0]:=(Vb.out.block (s+1) (by omega) (by omega) (hne1 _ (by omega))).trans HI.out.res;have k2:fB W3 (s+2) 4 #[.bool false]:=(Vb.out.block (s+2) (by omega) (by omega) (hne1 _ (by omega))).trans HD2.out;have bel:=Vb.out.below Yb.out (n:=s+1) (by omega) (by omega) (by omega);have Z':=(Vb.out.kn (n0:=0) (B:=0) Yb.out HV1.out (aB _) (aB _) (aB _));have q1:=k1.cellAt 0 rfl;have q2:=k1.Qe 0;have q3:=(k2.far (q:=⟨s+1,0,none⟩) (by simp) (.slice none 0 0)).cellAt 0 rfl;have q4:=(k2.far (q:=⟨s+1,0,none⟩) (by simp) (.slice none 0 0)).Qe 0;have bT:Hid (KeepsFrom w1.heap.size W ((W3.setCell ⟨s+1,0,none⟩ (.slice none 0 0)).setCell ⟨s+2,0,none⟩ (.bool false))/\ GX w s .ret (pre++ [z]) ((W3.setCell ⟨s+1,0,none⟩ (.slice none 0 0)).setCell ⟨s+2,0,none⟩ (.bool false))):=ah (by
      have Xc:KeepsFrom w1.heap.size W W3:=oz Z'.from (aB _)
      refine⟨⟨by simpa using Xc.size,fun k o hk ho hc=> ?_⟩,rfl,⟨z,by simp,Ld.out.symm⟩, ?_, ?_, ?_⟩
      · rw [Below.heap_setCell _ ⟨s+2,0,none⟩ _ k (by simp only;omega),Below.heap_setCell _ ⟨s+1,0,none⟩ _ k (by simp only;omega)]
        exact Xc.same k o hk ho hc
      · exact(k1.set 0 _).far (q:=⟨s+2,0,none⟩) (by simp) _
      · exact(k2.far (q:=⟨s+1,0,none⟩) (by simp) _).set 0 _
      · refine(Below.setCell (p:=⟨s+1,0,none⟩) (HI.out.bel.trans (bel.mono (by omega))) (by simp only;omega) _).setCell (p:=⟨s+2,0,none⟩) (by simp only;omega) _)
    clear k1 k2 bel Z' hne1
    gi_wp2
    exact bT.out
  · gi_wp2_with (first
      |((with_reducible show wpListIn _ _ _ _ _ (Oper.mk _ (.load 145 _) _ _ _ _::_) _ _);refine jG (Ar _) rfl (by intro c e;cases e) (bF 145 _ rfl r rfl _ (aQ Z5.out Tryz.underlying145 rfl zF)) ?_)
      |(refine⟨trivial, ?_⟩;gi_at_call 134;refine(CallsIn.inRound lq (callsIn_wide.2 Bc.out)).mono ?_;rintro e W3 ⟨rfl,hpf,v',hb',ho'⟩;have Vb:=ah (ak hpf (ak hb' ho'));clear hpf hb' ho'))
    have hne1:∀k,k<s+7->some k≠(Value.slice A (pre.map Subtype.val).length d).ownBlock:=fun k hk e=>by have:=(Yb.out.bnd e.symm).1;omega
    have Z':=(Vb.out.1.kn (n0:=w.heap.size) (B:=0) Yb.out HV1.out (by omega) (by omega) (by omega));refine⟨oz Z'.from (aB _),Z'.up (aB _),⟨v',Vb.out.2.1, ?_⟩,fun y hy=> ?_, ?_, ?_,HI.out.kn.trans Z'⟩
    · rw [List.map_append]
      have h:=Vb.out.2.2
      simpa using h
    · rcases List.mem_append.1 hy with hy|hy
      · exact HI.out.good y hy
      · obtain rfl:=List.mem_singleton.1 hy
        exact Ld.out.symm
    · exact(Vb.out.1.block (s+1) (by omega) (by omega) (hne1 _ (by omega))).trans HI.out.res
    · exact HI.out.bel.trans (Vb.out.1.below Yb.out (by omega) (by omega) (by omega))
 case done=>
  intro D ys W hD hS hi hdef;have hgd:=adC hi hS;obtain⟨v,hv1,hv2⟩:=hi.own;obtain⟨A,d,rfl,-,-,-⟩:=hv2.form;have hln:(ys.map Subtype.val).length=(fP x g).length:=(by rw [hS]);rw [hln]at hv1 hv2;rw [hS]at hv2;clear hln;have hzz:=hi.kn.size;have HSO:=ah (Qh (fP x g) w1.heap.size _ (by have:=SI.out;omega) W hzz hv2);have e3:=hv1.cellAt 0 (v:= .slice A (fP x g).length d) rfl;have HI:=ah hi;have HV1:=ah hv1;have Yb:=ah hv2;have HD2:=ah (hi.kn.blk HC.out.1 (by decide));have HDF:=ah hdef;have Ld:=ah hgd;clear hS hi hv1 hv2 hgd
  gi_upto_region 8 with(refine⟨trivial, ?_⟩;gi_at_call 136;refine(callsIn_wide.2 HSO.out).mono ?_;rintro e W3 ⟨rfl,r,hp,hs,ho,hb,hk⟩;have HR:=ah (ak hp (ak hs (ak ho (ak hb hk))));clear hp hs ho hb hk)
  have hlt:∀k,k<s+7->W3.heap[k]?=W.heap[k]?:=(fun k hk=>HR.out.2.2.2.1.block k (by omega));have adF:some D≠(Value.slice A (fP x g).length d).ownBlock:=fun e=>by
    rcases Yb.out.2 with⟨e0,_⟩|⟨gb,cap,cur,e0,_,hg,_⟩
    · rw [e0]at e;simp [Value.ownBlock]at e
    · rw [e0]at e
      have:=Option.some.inj e;subst this;rw [HDF.out]at hg;cases hg
  have k1:fB W3 (s+1) 151 #[.slice none 0 0]:=(hlt _ (by omega)).trans HI.out.res;have k2:fB W3 (s+2) 4 #[.bool false]:=(hlt _ (by omega)).trans HD2.out;have k3:fB W3 (s+3) 151 #[.slice A (fP x g).length d]:=(hlt _ (by omega)).trans HV1.out;have hD3:W3.heap[D]?=some (.deferred (some [])):=(HR.out.2.2.2.2 D (Array.getElem?_eq_some_iff.1 HDF.out).1 adF).trans HDF.out;have q0:=k3.cellAt 0 (v:= .slice A (fP x g).length d) rfl;have q1:=k1.cellAt 0 rfl;have q2:=k1.Qe 0;have q3:=(k2.far (q:=⟨s+1,0,none⟩) (by simp) (.slice A (fP x g).length d)).cellAt 0 rfl;have q4:=(k2.far (q:=⟨s+1,0,none⟩) (by simp) (.slice A (fP x g).length d)).Qe 0;obtain⟨W5,hW5⟩:=aqx ((W3.setCell ⟨s+1,0,none⟩ (.slice A (fP x g).length d)).setCell ⟨s+2,0,none⟩ (.bool true));have hset:∀k,k≠s+1->k≠s+2->W5.heap[k]?=W3.heap[k]?:=fun k h1 h2=>by
    rw [hW5,Below.heap_setCell _ ⟨s+2,0,none⟩ _ k (by simpa using h2),Below.heap_setCell _ ⟨s+1,0,none⟩ _ k (by simpa using h1)]
  have hD5:W5.heap[D]?=some (.deferred (some [])):=(hset D (by omega) (by omega)).trans hD3;have y1:fB W5 (s+1) 151 #[.slice A (fP x g).length d]:=(by rw [hW5];exact(k1.set 0 _).far (q:=⟨s+2,0,none⟩) (by simp) _);have y2:fB W5 (s+2) 4 #[.bool true]:=(by rw [hW5];exact(k2.far (q:=⟨s+1,0,none⟩) (by simp) _).set 0 _);have b5:Below w.heap.size w W5:=by
    rw [hW5];exact(Below.setCell (p:=⟨s+1,0,none⟩) (HI.out.bel.trans (HR.out.2.2.2.1.mono (by omega))) (by simp only;omega) _).setCell (p:=⟨s+2,0,none⟩) (by simp only;omega) _
  have o6:Au (W5.putObj D (.deferred none)) w.heap.size (.slice A (fP x g).length d) r:=by
    refine⟨HR.out.2.2.1.1, ?_⟩;rcases HR.out.2.2.1.2 with h2|⟨gb,cap,cur,e0,hb,hh,rr⟩
    · exact .inl h2
    · refine .inr ⟨gb,cap,cur,e0,by omega, ?_,rr⟩
      refine(World.putObj_heap_other fun e=>adF (by rw [e0, <-e];rfl)).trans ((hset gb (by omega) (by omega)).trans hh)
  have HW5:=ah hW5;have bT:Hid (Q (.returned (.tuple #[.slice A (fP x g).length d,.bool true])) (W5.putObj D (.deferred none))):=ah (HQY.out _ r _ Ld.out HR.out.1 HR.out.2.1 o6 (b5.grown (grownBy_putObj' W5 D _) b5.size fun k e=>by cases e;omega));have HY:=ah (ak hD5 (ak (y1.put (D:=D) (o:= .deferred none) (by omega)) (y2.put (D:=D) (o:= .deferred none) (by omega))));clear hlt adF k1 k2 k3 hD3 hset hD5 y1 y2 b5 o6 hW5
  gi_wp2
  rw [<-HW5.out];refine⟨by simp,.inl ⟨_,_,rfl,run_takeDeferred HY.out.1, ?_⟩⟩;exact⟨_,Gi rfl _ (s+1) (s+2) _ _ rfl rfl (Gj HY.out.2.1 Tryz.underlying151) (Gl HY.out.2.2 Tryz.underlying4),bT.out⟩
 case stop=>
  intro D cd pre W hD hSp hi hdef;obtain rfl:=hi.ret;have hgd:=adD hi hSp;have h2:=(Ya (w1:=w1) (s:=s) (by omega) .ret:OwnFrom w1.heap.size (GX w s .ret)).putObj (.deferred none) hi hD hdef rfl;have HE:=ah h2;have Ld:=ah hgd;clear hi h2 hgd hSp
  gi_wp2
  refine⟨by simp,.inl ⟨_,_,rfl,run_takeDeferred hdef, ?_⟩⟩;exact⟨_,Gi rfl _ (s+1) (s+2) _ _ rfl rfl (Gj HE.out.r1 Tryz.underlying151) (Gl HE.out.r2 Tryz.underlying4),HQN.out _ Ld.out HE.out.bel⟩
end Go.Proofs.YtkaipknkjocfiaaGreat
