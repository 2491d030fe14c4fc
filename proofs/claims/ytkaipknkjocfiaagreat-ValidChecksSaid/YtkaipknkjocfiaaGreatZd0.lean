import Derived.Below
import Derived.WalkKit
import Derived.Laws.OwnMore
import Derived.Deep.Draws
import Derived.Lib.Hide
import Derived.Deep.QuietTactic
import Derived.IntWalk
import Derived.ProofKit
import Derived.OpenShut
import Derived.Deep.DeepHandedRow
import Derived.Lib.LaidTab
import Derived.Maps.AppendAt
import Derived.Deep.AppendLies
import Derived.RegionTactic
import Derived.OwnWalk
import Derived.Deep.WholeRow
import Derived.Laws.CopyRow
import Derived.Great.BuildSlice
import Derived.Deep.RegionHeld
import Derived.Deep.Cut
import Derived.BigQuiet
import Derived.Laws.BitsAllLaws
namespace Go.Proofs.YtkaipknkjocfiaaGreat
open Go.RowKit
theorem aqx.{u} {α : Type u} (a : α) : ∃ x, x = a := ⟨a, rfl⟩
theorem ah{p:Prop}(h:p):Hid p:=Lib.hid h
theorem aqy{P:Program}{ops:Array Oper}{Q:Exit→Act→World→Prop}(o:Op){d:Option Nat}{y p f g}{l:List Oper}{a:Act}{w:World}(h:wpList P ops Q (Oper.mk d o y p f g::l) a w):wpList P ops Q (Oper.mk d o y p f g::l) a w:=h
theorem aqz{P:Program}{ops:Array Oper}{Q:Exit→Act→World→Prop}(d:Nat)(o:Op){y p f g}{l:List Oper}{a:Act}{w:World}(h:wpList P ops Q (Oper.mk (some d) o y p f g::l) a w):wpList P ops Q (Oper.mk (some d) o y p f g::l) a w:=h
theorem aj(n:Nat):n≤n:=Nat.le_refl n
theorem ak{a b:Prop}(h:a)(k:b):a∧b:=⟨h,k⟩
theorem au{a:Int}(h:0≤a):∃n:Nat,a=n:=Int.eq_ofNat_of_zero_le h
theorem ay.{u}{α:Type u}{l:List α}{n:Nat}(h:n<l.length):l[n]∈l:=List.getElem_mem h
theorem aA{n m k:Nat}(h:n≤m)(j:m≤k):n≤k:=Nat.le_trans h j
theorem aB(n:Nat):0≤n:=Nat.zero_le n
theorem aC(B:Nat)(w:World):Below B w w:=Below.refl B w
theorem aF.{u}{α:Type u}{l:List α}{i:Nat}(h:i<l.length):l[i]?=some l[i]:=List.getElem?_eq_getElem h
theorem aG(w:World)(a:Addr){u:Value}(h:w.cell? a=some u):a.block<w.heap.size:=World.block_lt_of_cell? w a h
theorem aN{n m k:Nat}(h:n<m)(j:m≤k):n<k:=Nat.lt_of_lt_of_le h j
theorem aO.{u}{α:Type u}{i:Nat}{l:List α}(h:i<l.length):l.take (i+1)=l.take i++ [l[i]]:=List.take_succ_eq_append_getElem h
theorem dA(a:Addr)(n:Nat):(a.add n).block=a.block:=by
 unfold Addr.add;by_cases h:n=0<;>simp [h]
theorem addr_add_add(a:Addr)(i j:Nat):(a.add i).add j=a.add (i+j):=by
 unfold Addr.add;by_cases hi:i=0<;>by_cases hj:j=0<;>simp [hi,hj,Nat.add_assoc]
def Lies(w:World)(B size:Nat)(A:Option Addr)(n:Nat)(xs:List Value):Prop:=
 xs.length=n*size/\ (n≠0->∃a,A=some a/\ a.block<B/\ ∀j (h:j<xs.length),w.cell? (a.add j)=some xs[j])
section
variable {w w' : World} {B B' size n : Nat} {A : Option Addr} {xs : List Value}
theorem Lies.nil(w:World)(B size:Nat)(A:Option Addr):Lies w B size A 0 []:=⟨by simp,fun h=>absurd rfl h⟩
theorem aK(w:World)(B size:Nat)(A:Option Addr):Lies w B size A 0 []:=Lies.nil w B size A
theorem Lies.at1{k:Nat}(h:Lies w B 1 A n xs)(hk:k<n):∃ (a:Addr) (hx:k<xs.length),A=some a/\ a.block<B/\ w.cell? (a.add k)=some xs[k]:=by
 obtain⟨a,e,hb,hc⟩:=h.2 (by omega);have hl:k<xs.length:=(by have:=h.1;omega);exact⟨a,hl,e,hb,hc k hl⟩
theorem Lies.DK{α:Type}{f:α->Value}{ys:List α}{k:Nat}(h:Lies w B 1 A n (ys.map f))(hk:k<n):∃ (a:Addr) (hx:k<ys.length),A=some a/\ a.block<B/\ w.cell? (a.add k)=some (f ys[k]):=by
 obtain⟨a,hl,e,hb,hc⟩:=h.at1 hk;exact⟨a,by simpa using hl,e,hb,by simpa using hc⟩
theorem Lies.same(h:Lies w B size A n xs)(hk:∀p:Addr,p.block<B->w'.cell? p=w.cell? p):Lies w' B size A n xs:=
 ⟨h.1,fun hn=>by
  obtain⟨a,e,hb,hc⟩:=h.2 hn;exact⟨a,e,hb,fun j hj=>(hk _ (by rw [dA];exact hb)).trans (hc j hj)⟩⟩
theorem Lies.wide(h:Lies w B size A n xs)(hB:B<=B'):Lies w B' size A n xs:=
 ⟨h.1,fun hn=>by
  obtain⟨a,e,hb,hc⟩:=h.2 hn;exact⟨a,e,aN hb hB,hc⟩⟩
theorem Lies.below(h:Lies w B size A n xs)(hb:Below B w w'):Lies w' B size A n xs:=h.same fun _ hp=>hb.cell hp
theorem Lies.drew(h:Lies w B size A n xs):Lies w.drew B size A n xs:=h
theorem Lies.drewN(h:Lies w B size A n xs)(k:Nat):Lies (w.drewN k) B size A n xs:=h
theorem Lies.alloc(h:Lies w B size A n xs)(hB:B<=w.heap.size)(o:Obj):Lies (w.alloc o) B size A n xs:=h.same fun p hp=>World.cell?_alloc_lt w o p (by omega)
theorem Lies.set(h:Lies w B size A n xs){p:Addr}(hB:B<=p.block)(u:Value):Lies (w.setCell p u) B size A n xs:=
 h.same fun q hq=>World.cell?_setCell_other w p q u (fun e=>by subst e;omega)
theorem Lies.grown(h:Lies w B size A n xs){row:Option Nat}(hg:w.grownBy w' row)(hB:B<=w.heap.size)(hr:∀g,row=some g->B<=g):Lies w' B size A n xs:=
 h.same fun p hp=>World.cell?_of_block (hg.block p.block (by omega) (fun e=>by have:=hr _ e.symm;omega))
theorem Lies.Rt{base:Nat}{e:TypeId}{c:Nat}(h:w.ownsRow base e size (.slice A n c) n xs):Lies w w.heap.size size A n xs:=by
 refine⟨h.1,fun hn=> ?_⟩;rcases h.2 with⟨_,hz⟩|⟨g,cap,cur,hv,hg,hh,_⟩
 · exact absurd hz hn
 · injection hv with hA
   subst hA;have hlt:g<w.heap.size:=by
    rcases Nat.lt_or_ge g w.heap.size with hl|hl
    · exact hl
    · rw [Array.getElem?_eq_none hl]at hh;cases hh
   exact⟨_,rfl,hlt,fun j hj=>h.cells (g:=g) rfl j _ (aF hj)⟩
end
theorem Ws{P:Program}{f:FuncId}{args:Array Value}{w:World}{n:Nat}{v:Value}
  (h:Calls P f args (w.drewN n) fun e w'=>e= .returned v/\ w.drewN n=w'):Calls P f args (w.drewN n) fun e w''=>e= .returned v/\ ∃m,w''=w.drewN m:=
 h.mono fun _ _ ⟨he,hm⟩=>⟨he,n,hm.symm⟩
def jF(l:List UInt8):List Value:=l.map fun b=>Value.int .u8 (b.toNat:Int)
theorem Wu(b:UInt8):(b.toNat:Int)<256:=by have:=b.toNat_lt;omega
theorem jC(w:World)(cs:Array Value)(t:TypeId)(n:Nat)(xs:List Value)(h:cs.toList=xs)(hn:xs.length=n):
  Lies (w.alloc (.cells cs t)) (w.heap.size+1) 1 (some ⟨w.heap.size,0,none⟩) n xs:=by
 refine⟨by omega,fun _=>⟨_,rfl,Nat.lt_succ_self _,fun j hj=> ?_⟩⟩;subst h;have e:((⟨w.heap.size,0,none⟩:Addr).add j)=⟨w.heap.size,j,none⟩:=by
  unfold Addr.add;by_cases h0:j=0<;>simp [h0]
 rw [e,cell_of_row _ w.heap.size j cs t (0,0) (heap_alloc_new w _)];simp at hj⊢
open Go.ChangeShapes Go.WideShapes Go.ChangeAt Go.RowKit
section
variable {H : Type} {enc : TypeId × Value -> H} {P : Program}
theorem yK{W W':World}{sp:Nat->Bool}(hl:laidOutB P=true):∀ (ts:List TypeId) (vs:List Value) (ds:List (DataW H)) (ps:List MemPlace),
  (∀t∈ts,P.readableRec t=true/\ t<P.types.size)->DataW.TrodAll enc P W 0 (fun _=>true) true ts vs ds ps->(∀p∈ps,W.sameAt W' p)->(∀p∈ps,sp p.block=true)->
  DataW.TrodAll enc P W' 0 sp true ts vs ds ps
 | [],[],[],_,_,h,_,_=>h
 | [],[],_::_,_,_,h,_,_=>(h:False).elim
 | [],_::_,_,_,_,h,_,_=>(h:False).elim
 |_::_,[],_,_,_,h,_,_=>(h:False).elim
 |_::_,_::_,[],_,_,h,_,_=>(h:False).elim
 |t::ts,v::vs,d::ds,ps,hr,h,hs,hp=>by
  obtain⟨p,q,h1,h2,rfl⟩:=h;have ht:=hr t (by simp);exact⟨p,q,WideElems.Trod_stays hl ht.1 ht.2 h1 (fun x hx=>hs x (by simp [hx])) (fun x hx=>hp x (by simp [hx])),
   yK hl ts vs ds q (fun t' h'=>hr t' (by simp [h'])) h2 (fun x hx=>hs x (by simp [hx])) (fun x hx=>hp x (by simp [hx])),rfl⟩
theorem Wq{f:Func}{s:ChangeSpec}{W W':World}{args:Array Value}{ds gs:List (DataW H)}{before:List MemPlace}{tb:TypeId}(hl:laidOutB P=true)
   (hr:∀t∈f.params.toList,P.readableRec t=true/\ t<P.types.size) (hv:s.vars=[]) (hf:f.resultTypes= #[tb]) (hb:P.underlying tb=some .bool)
   (hfn:gs=[]->(s.fn H ds).results=[.lit (.bool true)]/\ (s.fn H ds).args=ds/\ (s.fn H ds).vars=[])
   (hW:DataW.Whole enc P f.params.toList s.vars false W args.toList ds gs before) (hbel:Below W.heap.size W W'):
   s.post enc P f false true false false W args (.bool true) W':=by
 have hlt:∀p∈before,p.block<W.heap.size:=(fun p hp=>hW.lt p hp);have hW2:=hW;obtain⟨p,q,hA,hV,rfl,_,_⟩:=hW;rw [hv]at hV;obtain⟨rfl,rfl⟩:=trodVars_none hV;obtain⟨e1,e2,e3⟩:=hfn rfl;simp only [List.append_nil]at hlt hW2;refine⟨ds,[],p,[],p,[],hW2, ?_, ?_, ?_,hbel.frame _,fun h=>by cases h⟩
 · rw [List.append_nil,e1,hf]
   exact trodAll_mk1 (shut_bool hb _)
 · rw [List.append_nil,e2]
   exact yK hl _ _ _ _ hr hA (fun x hx=>hbel.same (hlt x hx)) (fun x hx=>by simpa using hlt x hx)
 · rw [List.append_nil,e3,hv]
   exact rfl
end
open Go.RowKit
section
variable {P : Program} {w : World}
theorem Ls(base:Nat)(t ty e:TypeId)(i:TypeInfo)(ht:P.underlying t=some (.slice e))(hi:P.info? e=some i)
   (v:Value) (n:Nat) (xs:List Value) (hown:w.ownsRow base e 1 v n xs) (c:Nat):(Builtin.append_ #[t,t] ty #[v,.slice none 0 c]).run P w= .ok v w:=by
 rcases hown.2 with⟨rfl,_⟩|⟨g,cap,cur,rfl,_,_,hle,_⟩
 · simp [Builtin.append_,Builtin.lenOf,Builtin.firstCells,run_underlying ht,sizeOf,typeInfo,hi]
 · simp [Builtin.append_,Builtin.lenOf,Builtin.firstCells,run_underlying ht,sizeOf,typeInfo,hi,hle,storeCells]
theorem aai(base:Nat)(t ty e:TypeId)(i:TypeInfo)(z:Value)(bytes:Nat)(ht:P.underlying t=some (.slice e))(hi:P.info? e=some i)(hz:i.zero=some z)
   (hsize:i.size=1) (hby:i.bytes=bytes) (hzs:z.cells.size=1) (v:Value) (n:Nat) (xs:List Value) (hown:w.ownsRow base e 1 v n xs)
   (B:Nat) (A:Option Addr) (m c:Nat) (news:List Value) (hr:Lies w B 1 A m news) (h1:∀u∈news,u.oneCell'=true)
   (h63:n+m<=maxLen) (hbytes:(n+m)*bytes<=140737488355328) (hbase:base<=w.heap.size):
   ∃v' w',(Builtin.append_ #[t,t] ty #[v,.slice A m c]).run P w= .ok v' w'/\ w'.ownsRow base e 1 v' (n+m) (xs++news)/\ w.grownBy w' v.ownBlock/\
    (v'.ownBlock=v.ownBlock∨v'.ownBlock=some w.heap.size):=by
 have hlen:news.length=m*1:=hr.1;rcases A with _|a
 · obtain rfl:m=0:=by
    rcases Nat.eq_zero_or_pos m with h0|h0
    · exact h0
    · obtain⟨_,h,_⟩:=hr.2 (by omega)
      cases h
   obtain rfl:news=[]:=List.eq_nil_of_length_eq_zero (by omega);exact⟨v,w,Ls base t ty e i ht hi v n xs hown c,by simpa using hown,World.grownBy.refl w _,Or.inl rfl⟩
 · have hc:∀ (j:Nat) (u:Value),news[j]?=some u->w.cell? (a.add j)=some u:=by
    intro j u hu;obtain⟨hj,rfl⟩:=List.getElem?_eq_some_iff.1 hu;obtain⟨a',h,_,hc⟩:=hr.2 (by omega);injection h with h
    subst h;exact hc j hj
   obtain⟨v',w',hrun,h2,h3,_,h5⟩:=run_append_own_at (P:=P) w base t ty e i z 1 bytes ht hi hz hsize hby hzs (by omega) v n xs hown a m c news hlen hc h1 h63 hbytes hbase;exact⟨v',w',hrun,h2,h3,h5⟩
theorem qC{ops:Array Oper}{rest:List Oper}{o:Oper}{a:Act}{Q:Exit->Act->World->Prop}(hgd:o.guard=none)(s x:Operand)(t:TypeId)
  (ho:o.op= .call { callee:= .builtin .append,args:= #[s,x],argTypes:= #[t,t] })
  (base:Nat) (e:TypeId) (i:TypeInfo) (z:Value) (bytes:Nat) (ht:P.underlying t=some (.slice e)) (hi:P.info? e=some i) (hz:i.zero=some z)
  (hsize:i.size=1) (hby:i.bytes=bytes) (hzs:z.cells.size=1) (v:Value) (n:Nat) (xs:List Value) (hs:a.eval s=v) (hown:w.ownsRow base e 1 v n xs)
  (B:Nat) (A:Option Addr) (m c:Nat) (news:List Value) (hx:a.eval x= .slice A m c) (hr:Lies w B 1 A m news) (h1:∀u∈news,u.oneCell'=true)
  (h63:n+m<=maxLen) (hbytes:(n+m)*bytes<=140737488355328) (hbase:base<=w.heap.size)
  (h:∀v' w',w'.ownsRow base e 1 v' (n+m) (xs++news)->w.grownBy w' v.ownBlock->(v'.ownBlock=v.ownBlock∨v'.ownBlock=some w.heap.size)->wpList P ops Q rest (a.put o.dst v') w'):
  wpList P ops Q (o::rest) a w:=by
 refine wpList_plain hgd fun K hK=> ?_;obtain⟨v',w',hrun,h2,h3,h4⟩:=aai (P:=P) base t o.type e i z bytes ht hi hz hsize hby hzs v n xs hown B A m c news hr h1 h63 hbytes hbase;unfold Oper.wp execOp;simp only [ho,resolve,invoke,builtin,Sem.run_bind,Sem.run_pure,Result.andThen_ok,List.map_toArray,List.map_cons,List.map_nil,hs,hx,hrun];exact hK _ _ (h v' w' h2 h3 h4)
end
theorem IB{w:World}{base:Nat}{e:TypeId}{v:Value}{n:Nat}{xs:List Value}(h:w.ownsRow base e 1 v n xs):
   ∃A c,v= .slice A n c/\ Lies w w.heap.size 1 A n xs:=by
 rcases h.2 with⟨rfl,rfl⟩|⟨g,cap,cur,rfl,_⟩
 · exact⟨none,0,rfl,Lies.Rt h⟩
 · exact⟨_,cap,rfl,Lies.Rt h⟩
theorem iK{w:World}{base base':Nat}{e:TypeId}{v:Value}{n:Nat}{xs:List Value}(h:w.ownsRow base e 1 v n xs)(hb:base'<=base):w.ownsRow base' e 1 v n xs:=by
 refine⟨h.1, ?_⟩;rcases h.2 with h2|⟨g,cap,cur,hv,hg,r⟩
 · exact Or.inl h2
 · exact Or.inr ⟨g,cap,cur,hv,aA hb hg,r⟩
theorem x9(l:List UInt8):∀u∈jF l,u.oneCell'=true:=by
 intro u hu;obtain⟨b,_,rfl⟩:=List.mem_map.1 hu
 rfl
theorem vS(a b:List UInt8):jF a++jF b=jF (a++b):=by simp [jF]
open Go.RowKit
def vec(n:Nat)(f:Nat->Value):Array Value:=((List.range n).map f).toArray
theorem iR(n:Nat)(f:Nat->Value):(vec n f).size=n:=by simp [vec]
theorem ES(n:Nat)(f:Nat->Value)(i:Nat)(h:i<n):(vec n f)[i]?=some (f i):=by
 simp [vec,h]
theorem TN{n:Nat}{f g:Nat->Value}(h:∀i,i<n->f i=g i):vec n f=vec n g:=by
 unfold vec
 congr 1
 exact List.map_congr_left fun i hi=>h i (List.mem_range.1 hi)
def upd{α:Type}(f:Nat->α)(i:Nat)(x:α):Nat->α:=fun j=>if j=i then x else f j
theorem aaj(n:Nat)(f:Nat->Value)(i:Nat)(x:Value):(vec n f).setIfInBounds i x=vec n (upd f i x):=by
 apply Array.ext_getElem?
 intro j;rw [Array.getElem?_setIfInBounds,iR];by_cases hj:j<n
 · rw [ES n _ j hj,ES n _ j hj]
   by_cases e:i=j
   · subst e;simp [upd,hj]
   · simp [upd,e,Ne.symm e]
 · by_cases e:i=j
   · subst e;simp [hj,vec]
   · simp [e,hj,vec]
def aU(w:World)(g:Nat)(t:TypeId)(n:Nat)(f:Nat->Value):Prop:=w.heap[g]?=some (.cells (vec n f) t (0,0))
section
variable {w w' : World} {g n : Nat} {t : TypeId} {f f' : Nat -> Value}
theorem aU.lt(h:aU w g t n f):g<w.heap.size:=by
 rcases Nat.lt_or_ge g w.heap.size with hlt|hge
 · exact hlt
 · unfold aU at h;rw [Array.getElem?_eq_none hge]at h;cases h
theorem aU.cell(h:aU w g t n f){i:Nat}(hi:i<n):w.cell? ⟨g,i,none⟩=some (f i):=(cell_of_row w g i _ t (0,0) h).trans (ES n f i hi)
theorem aU.frozen(h:aU w g t n f)(i:Nat):w.frozen? ⟨g,i,none⟩=false:=by
 unfold aU at h;simp [World.frozen?,h]
theorem aU.new(w:World)(t:TypeId)(n:Nat)(f:Nat->Value):aU (w.alloc (.cells (vec n f) t)) w.heap.size t n f:=heap_alloc_new w _
theorem aU.new'(w:World)(t:TypeId)(n:Nat)(f:Nat->Value)(cs:Array Value)(hc:cs=vec n f):aU (w.alloc (.cells cs t)) w.heap.size t n f:=by
 subst hc;exact aU.new w t n f
theorem aU.newAt(w:World)(t:TypeId)(n:Nat)(f:Nat->Value){g:Nat}(hg:g=w.heap.size):aU (w.alloc (.cells (vec n f) t)) g t n f:=by
 subst hg;exact aU.new w t n f
theorem aU.drewN(h:aU w g t n f)(k:Nat):aU (w.drewN k) g t n f:=h
theorem aU.alloc(h:aU w g t n f)(o:Obj):aU (w.alloc o) g t n f:=(Below.heap_alloc w o g h.lt).trans h
theorem aU.set(h:aU w g t n f)(i:Nat)(u:Value):aU (w.setCell ⟨g,i,none⟩ u) g t n (upd f i u):=by
 unfold aU at h⊢;rw [<-aaj];simp [World.setCell,Array.getElem?_modify,h]
theorem aU.far(h:aU w g t n f){p:Addr}(hp:g≠p.block)(u:Value):aU (w.setCell p u) g t n f:=(Below.heap_setCell w p u g hp).trans h
theorem aU.below{B:Nat}(h:aU w g t n f)(hb:Below B w w')(hg:g<B):aU w' g t n f:=(hb.block g hg).trans h
theorem aU.under(h:aU w g t n f)(hb:Below w.heap.size w w'):aU w' g t n f:=h.below hb h.lt
theorem aU.grown{row:Option Nat}(h:aU w g t n f)(hb:w.grownBy w' row)(hg:some g≠row):aU w' g t n f:=(hb.block g h.lt hg).trans h
theorem aU.congr(h:aU w g t n f)(hf:∀i,i<n->f i=f' i):aU w g t n f':=by
 unfold aU at h⊢;rw [<-TN hf];exact h
theorem aU.row(h:aU w g t n f)(f':Nat->Value):aU (w.setRow g (vec n f')) g t n f':=by
 unfold aU at h⊢;simp [World.setRow,Array.getElem?_modify,h]
theorem aU.JG(h:aU w g t n f){g':Nat}(hp:g≠g')(c:Array Value):aU (w.setRow g' c) g t n f:=by
 unfold aU at h⊢;simp [World.setRow,Array.getElem?_modify,h,Ne.symm hp]
theorem aU.lies{B:Nat}(h:aU w g t n f)(hB:g<B)(a m:Nat)(hm:a+m<=n):Lies w B 1 (some ⟨g,a,none⟩) m ((List.range m).map fun i=>f (a+i)):=by
 refine⟨by simp,fun _=>⟨_,rfl,hB,fun j hj=> ?_⟩⟩;have e:((⟨g,a,none⟩:Addr).add j)=⟨g,a+j,none⟩:=by
  unfold Addr.add;by_cases h0:j=0<;>simp [h0]
 simp at hj;rw [e,h.cell (by omega)];simp
theorem below_drewN{B:Nat}(h:Below B w w')(k:Nat):Below B w (w'.drewN k):=⟨h.1,h.2,h.3,h.4,h.5⟩
theorem bg{B:Nat}(h:Below B w w')(hB:B<=g)(c:Array Value):Below B w (w'.setRow g c):=by
 refine⟨h.1,h.2,h.3,by have:=h.4;simpa [World.setRow]using this,fun b hb=> ?_⟩;rw [<-h.5 b hb];simp [World.setRow,Array.getElem?_modify,show g≠b by omega]
theorem aQ{P:Program}{ty:TypeId}{d:TypeDesc}(h:aU w g t n f)(hu:P.underlying ty=some d)(hd:(match d with| .struct _| .array _ _=>true|_=>false)=true)(hi:(P.info? ty).map (·.size)=some n):
  (loadVar ty ⟨g,0,none⟩).run P w= .ok (.agg (vec n f)) w:=
 run_loadVar_row w g t ty (vec n f) (0,0) d h hu hd (by rw [iR];exact hi)
theorem aS{P:Program}{ty:TypeId}(h:aU w g t n f)(f':Nat->Value)(hi:(P.info? ty).map (·.size)=some n)(h1:∀i,i<n->(f' i).oneCell'=true):
  (storeVar ty ⟨g,0,none⟩ (.agg (vec n f'))).run P w= .ok () (w.setRow g (vec n f')):=
 run_storeVar_row w g t ty (vec n f) (vec n f') h (by rw [iR];exact hi) (by rw [iR,iR]) (by
  rw [Array.all_eq_true_iff_forall_mem];intro v hv;simp [vec]at hv;obtain⟨i,hi,rfl⟩:=hv;exact h1 i hi)
end
def oM(b:Nat->UInt8):Nat->Value:=fun i=> .int .u8 ((b i).toNat:Int)
section
variable {P : Program} {w w' : World} {ops : Array Oper} {rest : List Oper} {o : Oper} {a : Act} {Q : Exit -> Act -> World -> Prop}
theorem fA{fn:Func}{p:Tmp}{ty:TypeId}(h:fn.results= #[.cell p ty])(tmps:Array Value)(g:Nat)(v:Value)
  (ha:tmps.getD p undef= .pointer (some ⟨g,0,none⟩)) (hl:(loadVar ty ⟨g,0,none⟩).run P w= .ok v w):(results fn tmps).run P w= .ok v w:=by
 have hp':tmps[p]?.getD undef= .pointer (some ⟨g,0,none⟩):=(by simpa using ha);simp [results,h,hp',asAddr,hl]
theorem bM(hgd:o.guard=none)(ty:TypeId)(x:Operand)(ho:o.op= .load ty x)(g:Nat)(hx:a.eval x= .pointer (some ⟨g,0,none⟩))(v:Value)
  (hl:(loadVar ty ⟨g,0,none⟩).run P w= .ok v w) (h:wpList P ops Q rest (a.put o.dst v) w):wpList P ops Q (o::rest) a w:=
 wpList_plain hgd fun K hK=>by
  unfold Oper.wp execOp;simp only [ho,hx,Instr.loadAt,Instr.sureAddr,Sem.run_bind,Sem.run_pure,Result.andThen_ok,hl];exact hK _ _ h
theorem bF(ty:TypeId)(x:Operand)(ho:o.op= .load ty x)(g:Nat)(hx:a.eval x= .pointer (some ⟨g,0,none⟩))(v:Value)
  (hl:(loadVar ty ⟨g,0,none⟩).run P w= .ok v w):(execOp a.eval o).run P w= .ok (.value v) w:=by
 unfold execOp;simp only [ho,hx,Instr.loadAt,Instr.sureAddr,Sem.run_bind,Sem.run_pure,Result.andThen_ok,hl]
theorem dX{K:Act->World->Prop}(ty:TypeId)(x y:Operand)(ho:o.op= .store ty x y)(g:Nat)(hx:a.eval x= .pointer (some ⟨g,0,none⟩))(v:Value)(hy:a.eval y=v)
  (hs:(storeVar ty ⟨g,0,none⟩ v).run P w= .ok () w') (h:K (a.put o.dst undef) w'):o.wp P a w K Q:=by
 unfold Oper.wp execOp;simp only [ho,hx,hy,Instr.storeAt,Instr.sureAddr,Sem.run_bind,Sem.run_pure,Result.andThen_ok,hs];exact h
theorem bD(hgd:o.guard=none)(ty:TypeId)(x y:Operand)(ho:o.op= .store ty x y)(g:Nat)(hx:a.eval x= .pointer (some ⟨g,0,none⟩))(v:Value)(hy:a.eval y=v)
  (hs:(storeVar ty ⟨g,0,none⟩ v).run P w= .ok () w') (h:wpList P ops Q rest (a.put o.dst undef) w'):wpList P ops Q (o::rest) a w:=
 wpList_plain hgd fun K hK=>by
  unfold Oper.wp execOp;simp only [ho,hx,hy,Instr.storeAt,Instr.sureAddr,Sem.run_bind,Sem.run_pure,Result.andThen_ok,hs];exact hK _ _ h
end
structure Save(g:Nat)(w w':World):Prop where
 os:w'.os=w.os
 tape:w'.tape=w.tape
 output:w'.output=w.output
 size:w.heap.size<=w'.heap.size
 block:∀k,k<w.heap.size->k≠g->w'.heap[k]?=w.heap[k]?
theorem Save.refl(g:Nat)(w:World):Save g w w:=⟨rfl,rfl,rfl,aj _,fun _ _ _=>rfl⟩
theorem aI(g:Nat)(w:World):Save g w w:=Save.refl g w
theorem Save.trans{g:Nat}{a b c:World}(h:Save g a b)(k:Save g b c):Save g a c:=
 ⟨k.os.trans h.os,k.tape.trans h.tape,k.output.trans h.output,aA h.size k.size,fun i hi hg=>(k.block i (aN hi h.size) hg).trans (h.block i hi hg)⟩
theorem aJ{g:Nat}{a b c:World}(h:Save g a b)(k:Save g b c):Save g a c:=Save.trans h k
theorem Save.of_below{g:Nat}{w w':World}(h:Below w.heap.size w w'):Save g w w':=⟨h.1,h.2,h.3,h.4,fun k hk _=>h.5 k hk⟩
theorem aH{g:Nat}{w w2:World}(h:Below w.heap.size w w2):Save g w w2:=Save.of_below h
theorem Save.below{g B:Nat}{w w':World}(h:Save g w w')(hB:B<=g)(hs:B<=w.heap.size):Below B w w':=⟨h.1,h.2,h.3,h.4,fun k hk=>h.5 k (by omega) (by omega)⟩
theorem Save.drewN{g:Nat}{w w':World}(h:Save g w w')(n:Nat):Save g w (w'.drewN n):=⟨h.1,h.2,h.3,h.4,h.5⟩
theorem Save.setCell{g:Nat}{w w':World}(h:Save g w w')(i:Nat)(u:Value):Save g w (w'.setCell ⟨g,i,none⟩ u):=by
 refine⟨h.1,h.2,h.3,by have:=h.4;simpa [World.setCell]using this,fun k hk hg=> ?_⟩;rw [<-h.5 k hk hg];exact Below.heap_setCell w' ⟨g,i,none⟩ u k hg
theorem Save.setRow{g:Nat}{w w':World}(h:Save g w w')(c:Array Value):Save g w (w'.setRow g c):=by
 refine⟨h.1,h.2,h.3,by have:=h.4;simpa [World.setRow]using this,fun k hk hg=> ?_⟩;rw [<-h.5 k hk hg];simp [World.setRow,Array.getElem?_modify,Ne.symm hg]
theorem Save.cell{g:Nat}{w w':World}(h:Save g w w'){p:Addr}(hp:p.block<w.heap.size)(hg:p.block≠g):w'.cell? p=w.cell? p:=
 World.cell?_of_block (h.5 p.block hp hg)
theorem aU.save{g g' n:Nat}{w w':World}{t:TypeId}{f:Nat->Value}(h:aU w g n t f)(hs:Save g' w w')(hg:g≠g'):aU w' g n t f:=(hs.block g h.lt hg).trans h
theorem pR{P:Program}{w:World}{g o n:Nat}{ty:TypeId}{d:TypeDesc}{f:Nat->Value}(h:∀i,i<n->w.cell? ⟨g,o+i,none⟩=some (f i))(hu:P.underlying ty=some d)
  (hd:(match d with| .struct _| .array _ _=>true|_=>false)=true) (hi:(P.info? ty).map (·.size)=some n):
  (loadVar ty ⟨g,o,none⟩).run P w= .ok (.agg (vec n f)) w:=by
 have hl:(loadCells ⟨g,o,none⟩ (vec n f).toList.length).run P w= .ok (vec n f).toList.toArray w:=
  run_loadCells_list (P:=P) w ⟨g,o,none⟩ (vec n f).toList (fun j v hv=>by
   have hadd:(⟨g,o,none⟩:Addr).add j=⟨g,o+j,none⟩:=(by unfold Addr.add;split<;>simp_all);have hj:j<n:=by
    have:=(List.getElem?_eq_some_iff.1 hv).1
    simpa [vec]using this
   have hv2:(vec n f)[j]?=some v:=(by simpa using hv);rw [ES n f j hj]at hv2;rw [hadd,h j hj,hv2])
 cases hq:P.info? ty with
 |none=>simp [hq]at hi
 |some i=>
  have hs:i.size=n:=(by simpa [hq]using hi);have hagg:(isAgg ty).run P w= .ok true w:=by
   unfold isAgg;rw [Sem.run_bind,run_underlying hu w];cases d<;>simp_all
  have hz:(vec n f).size=n:=iR n f;simp only [Array.length_toList,Array.toArray_toList]at hl;rw [hz]at hl;simp [loadVar,Sem.run_bind,hagg,sizeOf,typeInfo,hq,hs,hl]
theorem jP{P:Program}{w:World}{o:Oper}{a:Act}(ty:TypeId)(x:Operand)(ho:o.op= .load ty x)(g k:Nat)(hx:a.eval x= .pointer (some ⟨g,k,none⟩))(v:Value)
  (hl:(loadVar ty ⟨g,k,none⟩).run P w= .ok v w):(execOp a.eval o).run P w= .ok (.value v) w:=by
 unfold execOp;simp only [ho,hx,Instr.loadAt,Instr.sureAddr,Sem.run_bind,Sem.run_pure,Result.andThen_ok,hl]
theorem dh{P:Program}{w:World}{ops:Array Oper}{rest:List Oper}{o:Oper}{a:Act}{Q:Exit->Act->World->Prop}(hg:o.guard=none)(t:TypeId)(parts:Array (Nat × Operand))(ho:o.op= .build t parts)
  (cs:Array Value) (hb:P.built t (parts.map fun(i,x)=>(i,a.eval x)).toList=some cs) (h:wpList P ops Q rest (a.put o.dst (.agg cs)) w):wpList P ops Q (o::rest) a w:=
 wpList_build hg t parts ho (by rw [hb];rfl) (by rw [hb];exact h)
def fB(w:World)(g:Nat)(t:TypeId)(cs:Array Value):Prop:=w.heap[g]?=some (.cells cs t (0,0))
section
variable {w w' : World} {g : Nat} {t : TypeId} {cs : Array Value}
theorem fB.lt(h:fB w g t cs):g<w.heap.size:=by
 rcases Nat.lt_or_ge g w.heap.size with hlt|hge
 · exact hlt
 · unfold fB at h;rw [Array.getElem?_eq_none hge]at h;cases h
theorem fB.new(w:World)(t:TypeId)(cs:Array Value){g:Nat}(h:g=w.heap.size):fB (w.alloc (.cells cs t)) g t cs:=by subst h;exact heap_alloc_new w _
theorem fB.alloc(h:fB w g t cs)(o:Obj):fB (w.alloc o) g t cs:=(Below.heap_alloc w o g h.lt).trans h
theorem fB.under(h:fB w g t cs)(hb:Below w.heap.size w w'):fB w' g t cs:=(hb.block g h.lt).trans h
theorem fB.below{B:Nat}(h:fB w g t cs)(hb:Below B w w')(hg:g<B):fB w' g t cs:=(hb.block g hg).trans h
theorem fB.save{g':Nat}(h:fB w g t cs)(hs:Save g' w w')(hg:g≠g'):fB w' g t cs:=(hs.block g h.lt hg).trans h
theorem fB.row(h:fB w g t cs)(cs':Array Value):fB (w.setRow g cs') g t cs':=by
 unfold fB at h⊢;simp [World.setRow,Array.getElem?_modify,h]
theorem fB.JG(h:fB w g t cs){g':Nat}(hp:g≠g')(c:Array Value):fB (w.setRow g' c) g t cs:=by
 unfold fB at h⊢;simp [World.setRow,Array.getElem?_modify,h,Ne.symm hp]
theorem fB.drewN(h:fB w g t cs)(k:Nat):fB (w.drewN k) g t cs:=h
theorem fB.grown{row:Option Nat}(h:fB w g t cs)(hb:w.grownBy w' row)(hg:some g≠row):fB w' g t cs:=(hb.block g h.lt hg).trans h
theorem fB.cell(h:fB w g t cs)(i:Nat):w.cell? ⟨g,i,none⟩=cs[i]?:=cell_of_row w g i _ t (0,0) h
theorem fB.cellAt(h:fB w g t cs)(i:Nat){v:Value}(hv:cs[i]?=some v):w.cell? ⟨g,i,none⟩=some v:=(h.cell i).trans hv
theorem fB.load{P:Program}{ty:TypeId}{d:TypeDesc}(h:fB w g t cs)(hu:P.underlying ty=some d)
  (hd:(match d with| .struct _| .array _ _=>true|_=>false)=true) (hi:(P.info? ty).map (·.size)=some cs.size):(loadVar ty ⟨g,0,none⟩).run P w= .ok (.agg cs) w:=
 run_loadVar_row w g t ty cs (0,0) d h hu hd hi
theorem fB.store{P:Program}{ty:TypeId}(h:fB w g t cs)(cs':Array Value)(hs:cs'.size=cs.size)(hi:(P.info? ty).map (·.size)=some cs'.size)(h1:cs'.toList.all Value.oneCell'=true):
  (storeVar ty ⟨g,0,none⟩ (.agg cs')).run P w= .ok () (w.setRow g cs'):=
 run_storeVar_row w g t ty cs cs' h hi hs.symm (by rw [<-Array.all_toList];exact h1)
end
open Go.RowKit
section
variable {α : Type} {n : Nat} {enc : α -> Nat -> Value}
def VZ(n:Nat)(f:Nat->Value):List Value:=(List.range n).map f
theorem qE(n:Nat)(f:Nat->Value):(VZ n f).length=n:=by simp [VZ]
theorem acv{n i:Nat}(f:Nat->Value)(h:i<n):(VZ n f)[i]?=some (f i):=by simp [VZ,h]
theorem Ru(n:Nat)(f:Nat->Value):(vec n f).toList=VZ n f:=by simp [vec,VZ]
def cellsE(n:Nat)(enc:α->Nat->Value)(l:List α):List Value:=l.flatMap fun x=>VZ n (enc x)
theorem oJ(a b:List α):cellsE n enc (a++b)=cellsE n enc a++cellsE n enc b:=by simp [cellsE]
theorem uy(x:α)(l:List α):cellsE n enc (x::l)=VZ n (enc x)++cellsE n enc l:=by simp [cellsE]
theorem DL(a:List α)(x:α):cellsE n enc (a++ [x])=cellsE n enc a++VZ n (enc x):=by simp [cellsE]
theorem jw(l:List α):(cellsE n enc l).length=l.length*n:=by
 induction l with
 |nil=>simp [cellsE]
 |cons x r ih=>rw [uy,List.length_append,qE,ih,List.length_cons,Nat.add_mul,Nat.one_mul,Nat.add_comm]
theorem nT:∀ (l:List α) (j:Nat) (h:j<l.length) (i:Nat),i<n->(cellsE n enc l)[j*n+i]?=some (enc l[j] i)
 | [],j,h,_,_=>by cases h
 |x::r,0,_,i,hi=>by
  rw [uy,Nat.zero_mul,Nat.zero_add,List.getElem?_append_left (by rw [qE];exact hi)];exact acv _ hi
 |x::r,j+1,h,i,hi=>by
  have ih:=nT r j (by simpa using h) i hi;have e:(j+1)*n+i-n=j*n+i:=(by rw [Nat.add_mul,Nat.one_mul];omega);rw [uy,List.getElem?_append_right (by rw [qE,Nat.add_mul,Nat.one_mul];omega),qE,e,ih]
  rfl
theorem ET(h1:∀ (x:α) i,i<n->(enc x i).oneCell'=true)(l:List α):∀u∈cellsE n enc l,u.oneCell'=true:=by
 intro u hu;obtain⟨x,_,hx⟩:=List.mem_flatMap.1 hu;obtain⟨i,hi,rfl⟩:=List.mem_map.1 hx;exact h1 x i (List.mem_range.1 hi)
def bI(n:Nat)(enc:α->Nat->Value)(w:World)(B:Nat)(A:Option Addr)(l:List α):Prop:=
 l≠ []->∃a,A=some a/\ a.block<B/\ ∀j (h:j<l.length) i,i<n->w.cell? (a.add (j*n+i))=some (enc l[j] i)
variable {w w' : World} {B B' : Nat} {A : Option Addr} {l : List α}
theorem bI.nil(w:World)(B:Nat)(A:Option Addr):bI n enc w B A []:=fun h=>absurd rfl h
theorem bI.same(h:bI n enc w B A l)(hk:∀p:Addr,p.block<B->w'.cell? p=w.cell? p):bI n enc w' B A l:=fun hn=>by
 obtain⟨a,e,hb,hc⟩:=h hn;exact⟨a,e,hb,fun j hj i hi=>(hk _ (by rw [dA];exact hb)).trans (hc j hj i hi)⟩
theorem bI.wide(h:bI n enc w B A l)(hB:B<=B'):bI n enc w B' A l:=fun hn=>by
 obtain⟨a,e,hb,hc⟩:=h hn;exact⟨a,e,aN hb hB,hc⟩
theorem bI.below(h:bI n enc w B A l)(hb:Below B w w'):bI n enc w' B A l:=h.same fun _ hp=>hb.cell hp
theorem bI.up(h:bI n enc w w.heap.size A l)(hb:Below w.heap.size w w'):bI n enc w' w'.heap.size A l:=(h.below hb).wide hb.size
theorem bI.at{k:Nat}(h:bI n enc w B A l)(hk:k<l.length):∃a p,A=some a/\ a.add (k*n)=p/\ p.block<B/\ ∀i,i<n->w.cell? (p.add i)=some (enc l[k] i):=by
 obtain⟨a,e,hb,hc⟩:=h (fun hn=>by subst hn;cases hk);refine⟨a,_,e,rfl,by rw [dA];exact hb,fun i hi=> ?_⟩;rw [addr_add_add];exact hc k hk i hi
end
open Go.RowKit
section
variable {P : Program} {ops : Array Oper} {Q : Exit -> Act -> World -> Prop} {md : Region.Mode} {S S' : World -> Prop}
theorem Wv{i:Nat}{oi:Oper}{fuel:Nat}{listed:Array Bool}{a:Act}{w:World}(hr:Region.ready md ops listed=[i])(hi:ops[i]?=some oi)
  (hw:Region.wanted oi (yielded ops a.tmps)=true)
  (h:∀K':Act->World->Prop,(∀a w,S w->(S w->wpAnyH P md ops Q S fuel (listed.setIfInBounds i true) a w)->K' a w)->Oper.wp P oi a w K' Q):
  wpAnyH P md ops Q S (fuel+1) listed a w:=by
 refine wpAnyH_ready hr (by simp) (AllReadyH.cons hi (fun K' hK=> ?_) AllReadyH.nil);rw [if_pos hw];exact h K' fun a w h1 h2=>hK.out a w h1 h2
theorem Wx{i j:Nat}{oi oj:Oper}{fuel:Nat}{listed:Array Bool}{a:Act}{w:World}(hr:Region.ready md ops listed=[i,j])(hi:ops[i]?=some oi)(hj:ops[j]?=some oj)
   (hwi:Region.wanted oi (yielded ops a.tmps)=true) (hwj:Region.wanted oj (yielded ops a.tmps)=true)
   (h1:∀K':Act->World->Prop,(∀a w,S w->(S w->wpAnyH P md ops Q S fuel (listed.setIfInBounds i true) a w)->K' a w)->Oper.wp P oi a w K' Q)
   (h2:∀K':Act->World->Prop,(∀a w,S w->(S w->wpAnyH P md ops Q S fuel (listed.setIfInBounds j true) a w)->K' a w)->Oper.wp P oj a w K' Q):
   wpAnyH P md ops Q S (fuel+1) listed a w:=by
 refine wpAnyH_ready hr (by simp) (AllReadyH.cons hi (fun K' hK=> ?_) (AllReadyH.cons hj (fun K' hK=> ?_) AllReadyH.nil))
 · rw [if_pos hwi]
   exact h1 K' fun a w h1 h2=>hK.out a w h1 h2
 · rw [if_pos hwj]
   exact h2 K' fun a w h1 h2=>hK.out a w h1 h2
theorem IC{i:Nat}{oi:Oper}{v:Value}{fuel:Nat}{listed:Array Bool}{a:Act}{w:World}(hi:ops[i]?=some oi)
  (hs:Region.noSelect ops=true) (hf:Region.free md ops listed i=true) (hr:(Region.ready md ops listed).contains i=true)
  (hQ:∀c a w,Q (.panic c) (a.put oi.dst v) w->Q (.panic c) a w) (hw:Region.wanted oi (yielded ops a.tmps)=true) (hy:∀w,S w->(execOp a.eval oi).run P w= .ok (.value v) w) (hS:S w)
  (h:wpAnyH P md ops Q S fuel (listed.setIfInBounds i true) (a.put oi.dst v) w):wpAnyH P md ops Q S (fuel+1) listed a w:=
 wpAnyH_take hi hs hf hr hQ (Or.inl ⟨hw,hy⟩) hS h
theorem TP{i:Nat}{oi:Oper}{fuel:Nat}{listed:Array Bool}{a:Act}{w:World}(hi:ops[i]?=some oi)
  (hs:Region.noSelect ops=true) (hf:Region.free md ops listed i=true) (hr:(Region.ready md ops listed).contains i=true)
  (hQ:∀c a w,Q (.panic c) (a.put oi.dst undef) w->Q (.panic c) a w) (hw:Region.wanted oi (yielded ops a.tmps)=false) (hS:S w)
  (h:wpAnyH P md ops Q S fuel (listed.setIfInBounds i true) (a.put oi.dst undef) w):wpAnyH P md ops Q S (fuel+1) listed a w:=
 wpAnyH_take hi hs hf hr hQ (Or.inr ⟨hw,rfl⟩) hS h
end
section
variable {P : Program} {ops : Array Oper} {Q : Exit -> Act -> World -> Prop} {md : Region.Mode} {S : World -> Prop}
theorem tA(i:Nat){oi:Oper}{v:Value}{fuel:Nat}{listed:Array Bool}{a:Act}{w:World}{G:Prop}(h:G)
  (hs:Region.noSelect ops=true:=by kernel_rfl) (hf:Region.free md ops listed i=true:=by kernel_rfl) (hr:(Region.ready md ops listed).contains i=true:=by kernel_rfl) (hS:S w:=by assumption)
  (hi:ops[i]?=some oi:=by(simp only [List.getElem?_toArray,List.getElem?_cons_zero,List.getElem?_cons_succ];rfl)) (hQ:∀c a w,Q (.panic c) (a.put oi.dst v) w->Q (.panic c) a w:=by exact fun _ _ _ h=>h) (hw:Region.wanted oi (yielded ops a.tmps)=true:=by kernel_rfl)
  (hy:∀w,S w->(execOp a.eval oi).run P w= .ok (.value v) w:=by(intro W hW;(try dsimp only at hW);go_split_ands;go_simp;(try with_reducible rfl)))
  (he:wpAnyH P md ops Q S fuel (listed.setIfInBounds i true) (a.put oi.dst v) w=G:=by(simp only [Act.put,List.setIfInBounds_toArray,List.set_cons_zero,List.set_cons_succ]<;>rfl)):wpAnyH P md ops Q S (fuel+1) listed a w:=
 IC hi hs hf hr hQ hw hy hS (he.mpr h)
theorem tP(i:Nat){oi:Oper}{v:Value}{fuel:Nat}{listed:Array Bool}{a:Act}{w:World}{G:Prop}(h:G)
  (hs:Region.noSelect ops=true:=by kernel_rfl) (hf:Region.free md ops listed i=true:=by kernel_rfl) (hr:(Region.ready md ops listed).contains i=true:=by kernel_rfl) (hS:S w:=by assumption)
  (hi:ops[i]?=some oi:=by(simp only [List.getElem?_toArray,List.getElem?_cons_zero,List.getElem?_cons_succ];rfl)) (hQ:∀c a w,Q (.panic c) (a.put oi.dst v) w->Q (.panic c) a w:=by exact fun _ _ _ h=>h) (hw:Region.wanted oi (yielded ops a.tmps)=true:=by kernel_rfl)
  (hy:∀w,S w->(execOp a.eval oi).run P w= .ok (.value v) w:=by(intro W hW;clear hW;go_simp;(try with_reducible rfl)))
  (he:wpAnyH P md ops Q S fuel (listed.setIfInBounds i true) (a.put oi.dst v) w=G:=by(simp only [Act.put,List.setIfInBounds_toArray,List.set_cons_zero,List.set_cons_succ]<;>rfl)):wpAnyH P md ops Q S (fuel+1) listed a w:=
 IC hi hs hf hr hQ hw hy hS (he.mpr h)
theorem sQ(i:Nat){oi:Oper}{fuel:Nat}{listed:Array Bool}{a:Act}{w:World}{G:Prop}(h:G)
  (hs:Region.noSelect ops=true:=by kernel_rfl) (hf:Region.free md ops listed i=true:=by kernel_rfl) (hr:(Region.ready md ops listed).contains i=true:=by kernel_rfl) (hS:S w:=by assumption)
  (hi:ops[i]?=some oi:=by(simp only [List.getElem?_toArray,List.getElem?_cons_zero,List.getElem?_cons_succ];rfl)) (hQ:∀c a w,Q (.panic c) (a.put oi.dst undef) w->Q (.panic c) a w:=by exact fun _ _ _ h=>h) (hw:Region.wanted oi (yielded ops a.tmps)=false:=by kernel_rfl)
  (he:wpAnyH P md ops Q S fuel (listed.setIfInBounds i true) (a.put oi.dst undef) w=G:=by(simp only [Act.put,List.setIfInBounds_toArray,List.set_cons_zero,List.set_cons_succ]<;>rfl)):wpAnyH P md ops Q S (fuel+1) listed a w:=
 TP hi hs hf hr hQ hw hS (he.mpr h)
theorem oQ(i:Nat){oi:Oper}{fuel:Nat}{listed:Array Bool}{a:Act}{w:World}
 (h:∀K':Act->World->Prop,(∀a w,S w->(S w->wpAnyH P md ops Q S fuel (listed.setIfInBounds i true) a w)->K' a w)->Oper.wp P oi a w K' Q) (hr:Region.ready md ops listed=[i]:=by kernel_rfl) (hi:ops[i]?=some oi:=by(simp only [List.getElem?_toArray,List.getElem?_cons_zero,List.getElem?_cons_succ];rfl))
 (hw:Region.wanted oi (yielded ops a.tmps)=true:=by kernel_rfl):
 wpAnyH P md ops Q S (fuel+1) listed a w:=Wv hr hi hw h
theorem wQ(i j:Nat){oi oj:Oper}{fuel:Nat}{listed:Array Bool}{a:Act}{w:World}(hr:Region.ready md ops listed=[i,j]:=by kernel_rfl)(hi:ops[i]?=some oi:=by(simp only [List.getElem?_toArray,List.getElem?_cons_zero,List.getElem?_cons_succ];rfl))(hj:ops[j]?=some oj:=by(simp only [List.getElem?_toArray,List.getElem?_cons_zero,List.getElem?_cons_succ];rfl))
 (hwi:Region.wanted oi (yielded ops a.tmps)=true:=by kernel_rfl) (hwj:Region.wanted oj (yielded ops a.tmps)=true:=by kernel_rfl)
 (h1:∀K':Act->World->Prop,(∀a w,S w->(S w->wpAnyH P md ops Q S fuel (listed.setIfInBounds i true) a w)->K' a w)->Oper.wp P oi a w K' Q)
 (h2:∀K':Act->World->Prop,(∀a w,S w->(S w->wpAnyH P md ops Q S fuel (listed.setIfInBounds j true) a w)->K' a w)->Oper.wp P oj a w K' Q):
 wpAnyH P md ops Q S (fuel+1) listed a w:=Wx hr hi hj hwi hwj h1 h2
end
open Go.RowKit
section
variable {P : Program} {ops : Array Oper} {Q : Exit -> Act -> World -> Prop} {md : Region.Mode} {S : World -> Prop}
theorem nU{i j k:Nat}{oi oj ok:Oper}{fuel:Nat}{listed:Array Bool}{a:Act}{w:World}(hr:Region.ready md ops listed=[i,j,k])(hi:ops[i]?=some oi)(hj:ops[j]?=some oj)(hk:ops[k]?=some ok)
   (hwi:Region.wanted oi (yielded ops a.tmps)=true) (hwj:Region.wanted oj (yielded ops a.tmps)=true) (hwk:Region.wanted ok (yielded ops a.tmps)=true)
   (h1:∀K':Act->World->Prop,(∀a w,S w->(S w->wpAnyH P md ops Q S fuel (listed.setIfInBounds i true) a w)->K' a w)->Oper.wp P oi a w K' Q)
   (h2:∀K':Act->World->Prop,(∀a w,S w->(S w->wpAnyH P md ops Q S fuel (listed.setIfInBounds j true) a w)->K' a w)->Oper.wp P oj a w K' Q)
   (h3:∀K':Act->World->Prop,(∀a w,S w->(S w->wpAnyH P md ops Q S fuel (listed.setIfInBounds k true) a w)->K' a w)->Oper.wp P ok a w K' Q):
   wpAnyH P md ops Q S (fuel+1) listed a w:=by
 refine wpAnyH_ready hr (by simp) (AllReadyH.cons hi (fun K' hK=> ?_) (AllReadyH.cons hj (fun K' hK=> ?_) (AllReadyH.cons hk (fun K' hK=> ?_) AllReadyH.nil)))
 · rw [if_pos hwi]
   exact h1 K' fun a w h1 h2=>hK.out a w h1 h2
 · rw [if_pos hwj]
   exact h2 K' fun a w h1 h2=>hK.out a w h1 h2
 · rw [if_pos hwk]
   exact h3 K' fun a w h1 h2=>hK.out a w h1 h2
end
open Go.RowKit
theorem bP{P:Program}{o:Oper}{a:Act}(t:TypeId)(parts:Array (Nat × Operand))(ho:o.op= .build t parts)(cs:Array Value)
  (hb:P.built t (parts.map fun(i,x)=>(i,a.eval x)).toList=some cs) (w:World):(execOp a.eval o).run P w= .ok (.value (.agg cs)) w:=by
 unfold execOp;simp only [ho,Sem.run_bind,run_build w t _ cs hb,Result.andThen_ok,Sem.run_pure]
def VS(V Y:World):Prop:=Below V.heap.size V Y
theorem VS.keep{V Y Z:World}(h:VS V Y)(hd:Below Y.heap.size Y Z):VS V Z:=Below.trans h (hd.mono h.size)
theorem VS.begin(V:World):VS V V.drew:=⟨rfl,rfl,rfl,aj _,fun _ _=>rfl⟩
abbrev By:=List UInt8
def be:Nat->Nat->By
 |0,_=>[]
 |m+1,n=>be m (n/256)++ [UInt8.ofNat (n% 256)]
def val(l:By):Nat:=l.foldl (fun a x=>a*256+x.toNat) 0
theorem kU:∀m n,(be m n).length=m
 |0,_=>rfl
 |m+1,n=>by simp [be,kU m]
theorem Lu(l:By)(x:UInt8):val (l++ [x])=val l*256+x.toNat:=by simp [val]
theorem aak{P:By->Prop}(h0:P [])(h1:∀l x,P l->P (l++ [x]))(l:By):P l:=by
 rw [<-List.reverse_reverse l]
 induction l.reverse with
 |nil=>exact h0
 |cons x t ih=>rw [List.reverse_cons];exact h1 _ _ ih
theorem Wy(l:By):val l<256^l.length:=by
 refine aak (P:=fun l=>val l<256^l.length) (by simp [val]) (fun l x ih=> ?_) l;have:=x.toNat_lt;rw [Lu,List.length_append,List.length_singleton,Nat.pow_succ];omega
structure EU(α:Type) where
 put:α->Except Nat By
 get:By->Nat->Except (Nat × Nat) (α × Nat)
structure EU.Ok{α:Type}(c:EU α):Prop where
 back:∀a bs,c.put a= .ok bs->∀pre post:By,c.get (pre++bs++post) pre.length= .ok (a,pre.length+bs.length)
 once:∀ (b:By) p a q,p<=b.length->c.get b p= .ok (a,q)->p<=q/\ q<=b.length/\ c.put a= .ok ((b.drop p).take (q-p))
 cuts:∀a bs,c.put a= .ok bs->∀ (pre:By) k,k<bs.length->∃p,c.get (pre++bs.take k) pre.length= .error (141,p)/\ p<=pre.length+k
def raw{α:Type}(m:Nat)(enc:α->Except Nat By)(dec:By->Except Nat α):EU α where
 put:=enc
 get b p:=if p+m<=b.length then match dec ((b.drop p).take m)with
  | .ok a=> .ok (a,p+m)
  | .error e=> .error (e,p)
  else .error (141,p)
def fld(m lo hi e:Nat):EU Int:=raw m (fun z=>if(lo:Int)<=z/\ z<=(hi:Int)then .ok (be m z.toNat)else .error e) fun l=>if lo<=val l/\ val l<=hi then .ok (val l:Int)else .error e
def EU.map{α β:Type}(c:EU α)(f:α->β)(g:β->α):EU β where
 put x:=c.put (g x)
 get b p:=match c.get b p with
  | .ok (a,q)=> .ok (f a,q)
  | .error e=> .error e
def sign(c:UInt8):Bool:=(97<=c&&c<=122)||(48<=c&&c<=57)||c==45
def jD(s:By):Bool:=s.all sign&&decide (1<=s.length)&&decide (s.length<=16)
def qQ(s:By):By:=s++List.replicate (16-s.length) 0
def ajS:EU Int:=fld 8 0 18446744073709551615 144
def ajT:EU Int:=fld 4 0 4294967295 144
def ae':EU Bool:=(fld 4 0 1 144).map (fun z=>decide (z=1)) (fun b=>cond b 1 0)
structure Wi where
 fZ:Int
 pa:Int
 size:Int
 perm:Int
structure De where
 fZ:Int
 pa:Int
 size:Int
structure Ir where
 number:Int
 cpu:Int
 edge:Bool
structure En where
 bK:Int
 perm:Int
 fZ:Int
structure Ch where
 pa:Int
 size:Int
 a:En
 b:En
structure Gs where
 name:By
 must:Bool
 off:Int
 len:Int
 gX:Int
 entry:Int
 Ac:Int
 key:By
 wins:List Wi
 dG:List De
 cO:List Ir
 strs:List Int
structure Cf where
 ver:Int
 gs:List Gs
 dH:List Ch
section
variable (ko : By -> Bool)
end
structure Rs where
 at_:Nat
 err:Option (Nat × Nat)
def nP{α:Type}(c:EU α)(b:By)(st:Rs)(a:α)(st':Rs):Prop:=match st.err with
 |some x=>st'.err=some x
 |none=>match c.get b st.at_ with
  | .ok (a',q)=>a=a'/\ st'=⟨q,none⟩
  | .error x=>st'.err=some x
section
variable {α β : Type} {b : By} {st s1 s2 : Rs}
theorem nP.on{c:EU α}{a:α}(h:nP c b st a s1)(hn:s1.err=none):st.err=none/\ c.get b st.at_= .ok (a,s1.at_):=by
 unfold nP at h;cases he:st.err with
 |some x=>rw [he]at h;simp only at h;rw [hn]at h;cases h
 |none=>
  rw [he]at h;simp only at h;refine⟨rfl, ?_⟩;cases hg:c.get b st.at_ with
  |ok aq=>
   obtain⟨a',q⟩:=aq;rw [hg]at h;obtain⟨rfl,rfl⟩:=h
   rfl
  |error x=>rw [hg]at h;simp only at h;rw [hn]at h;cases h
theorem nP.Rx{c:EU α}{a:α}{x:Nat × Nat}(h:st.err=some x)(h1:s1.err=some x):nP c b st a s1:=by
 unfold nP;rw [h];exact h1
theorem nP.stays{c:EU α}{a:α}{x:Nat × Nat}(h:nP c b st a s1)(hx:st.err=some x):s1.err=some x:=by
 unfold nP at h;rw [hx]at h;exact h
theorem nP.afa{c:EU α}{a:α}{q:Nat}(h:st.err=none)(hg:c.get b st.at_= .ok (a,q))(h1:s1=⟨q,none⟩):nP c b st a s1:=by
 unfold nP;rw [h];simp only;rw [hg];exact⟨rfl,h1⟩
theorem nP.WA{c:EU α}{a:α}{x:Nat × Nat}(h:st.err=none)(hg:c.get b st.at_= .error x)(h1:s1.err=some x):nP c b st a s1:=by
 unfold nP;rw [h];simp only;rw [hg];exact h1
theorem nP.fails{c:EU α}{a:α}{x:Nat × Nat}(h:nP c b st a s1)(hn:st.err=none)(hx:s1.err=some x):c.get b st.at_= .error x:=by
 unfold nP at h;rw [hn]at h;simp only at h;cases hg:c.get b st.at_ with
 |ok aq=>
  obtain⟨a',q⟩:=aq;rw [hg]at h;obtain⟨_,rfl⟩:=h;cases hx
 |error y=>rw [hg]at h;simp only at h;rw [hx]at h;cases h;rfl
theorem nP.map{c:EU α}{f:α->β}{g:β->α}{a:α}(h:nP c b st a s1):nP (c.map f g) b st (f a) s1:=by
 cases he:st.err with
 |some x=>exact .Rx he (h.stays he)
 |none=>
  cases e1:s1.err with
  |some x=>
   refine .WA he ?_ e1;show(match c.get b st.at_ with| .ok (a,q)=>_| .error e=>_)=_
   rw [h.fails he e1]
  |none=>
   obtain⟨_,g1⟩:=h.on e1;refine .afa (q:=s1.at_) he ?_ (by cases s1;simp only at e1;subst e1;rfl);show(match c.get b st.at_ with| .ok (a,q)=>_| .error e=>_)=_
   rw [g1]
theorem nP.any{c:EU α}{a a':α}(h:nP c b st a s1)(ha:s1.err=none->a=a'):nP c b st a' s1:=by
 cases he:st.err with
 |some x=>exact .Rx he (h.stays he)
 |none=>
  cases e1:s1.err with
  |some x=>exact .WA he (h.fails he e1) e1
  |none=>rw [<-ha e1];exact h
end
section
variable {α : Type} {c : EU α} {b : By}
end
end Go.Proofs.YtkaipknkjocfiaaGreat
