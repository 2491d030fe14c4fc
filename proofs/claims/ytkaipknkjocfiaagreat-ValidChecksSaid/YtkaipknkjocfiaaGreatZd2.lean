import Derived.Deep.CutRange
import Derived.Deep.Strs
import Derived.Deep.Slices
import Derived.Lib.SmallJoins
import Derived.Lib.LaidU8
import Derived.ChangeArms
import Derived.Lib.Hide
import Derived.Deep.RegionWith
import Derived.Laws.StructEq
import Derived.Deep.CutBlock
import Derived.Test.YtkaipknkjocfiaaGreatZd1
import Derived.Test.YtkaipknkjocfiaaGreatProg
set_option maxRecDepth 100000
set_option maxHeartbeats 64000000
namespace Go.Proofs.YtkaipknkjocfiaaGreat
open Go.RowKit
attribute [local go_sem ↓ high] gZ
section
variable {P : Program} {w w' : World} {ops : Array Oper} {rest : List Oper} {o : Oper} {a : Act} {Q : Exit -> Act -> World -> Prop}
theorem uP(hg:o.guard=none){t:TypeId}{n:Nat}(y:Operand)(ho:o.op= .buildSlice t n #[(0,y)])(v0:Value)(hy:a.eval y=v0){v:Value}(hr:(Instr.buildSlice t n #[(0,v0)]).run P w= .ok v w')
  (h:wpList P ops Q rest (a.put o.dst v) w'):wpList P ops Q (o::rest) a w:=
 wpList_plain hg fun K hK=>by
  unfold Oper.wp execOp;subst hy;simp only [ho,Sem.run_bind,List.map_toArray,List.map_cons,List.map_nil,hr,Result.andThen_ok,Sem.run_pure];exact hK _ _ h
end
theorem Oe:(Tryz.prog.info? 67).map (fun i=>(i.zero,i.size,i.bytes))=some (some (.agg (vec 4 (bG JJ))),4,32):=by kernel_rfl
theorem jy(x:Wi)(w:World):(Instr.buildSlice 58 1 #[(0,.agg (vec 4 (bG x)))]).run Tryz.prog w= .ok (.slice (some ⟨w.heap.size,0,none⟩) 1 1) (w.alloc (.cells (vec 4 (bG x)) 67)):=by
 obtain⟨i0,hi,hz0,hz1,hz2⟩:=info_parts Oe;refine run_buildSlice (P:=Tryz.prog) w 58 67 1 _ _ i0 (.agg (vec 4 (bG JJ))) Tryz.underlying58 hi hz0 (by rw [hz1];decide) (by rw [hz1];decide) ?_;rw [hz1]
 kernel_rfl
theorem YB:(Tryz.prog.info? 65).map (fun i=>(i.zero,i.size,i.bytes))=some (some (.agg (vec 3 (dV zIr))),3,24):=by kernel_rfl
theorem ny(x:Ir)(w:World):(Instr.buildSlice 60 1 #[(0,.agg (vec 3 (dV x)))]).run Tryz.prog w= .ok (.slice (some ⟨w.heap.size,0,none⟩) 1 1) (w.alloc (.cells (vec 3 (dV x)) 65)):=by
 obtain⟨i0,hi,hz0,hz1,hz2⟩:=info_parts YB;refine run_buildSlice (P:=Tryz.prog) w 60 65 1 _ _ i0 (.agg (vec 3 (dV zIr))) Tryz.underlying60 hi hz0 (by rw [hz1];decide) (by rw [hz1];decide) ?_;rw [hz1]
 kernel_rfl
theorem Kt:(Tryz.prog.info? 47).map (fun i=>(i.zero,i.size,i.bytes))=some (some (.agg (vec 8 (kJ Uf))),8,64):=by kernel_rfl
theorem lg(x:Ch)(w:World):(Instr.buildSlice 29 1 #[(0,.agg (vec 8 (kJ x)))]).run Tryz.prog w= .ok (.slice (some ⟨w.heap.size,0,none⟩) 1 1) (w.alloc (.cells (vec 8 (kJ x)) 47)):=by
 obtain⟨i0,hi,hz0,hz1,hz2⟩:=info_parts Kt;refine run_buildSlice (P:=Tryz.prog) w 29 47 1 _ _ i0 (.agg (vec 8 (kJ Uf))) Tryz.underlying29 hi hz0 (by rw [hz1];decide) (by rw [hz1];decide) ?_;rw [hz1]
 kernel_rfl
theorem YC:(Tryz.prog.info? 27).map (fun i=>(i.zero,i.size,i.bytes))=some (some (.int .u32 0),1,4):=by kernel_rfl
theorem nC(x:Int)(w:World):(Instr.buildSlice 61 1 #[(0,.int .u32 x)]).run Tryz.prog w= .ok (.slice (some ⟨w.heap.size,0,none⟩) 1 1) (w.alloc (.cells (vec 1 (mP x)) 27)):=by
 obtain⟨i0,hi,hz0,hz1,hz2⟩:=info_parts YC;refine run_buildSlice (P:=Tryz.prog) w 61 27 1 _ _ i0 (.int .u32 0) Tryz.underlying61 hi hz0 (by rw [hz1];decide) (by rw [hz1];decide) ?_;rw [hz1]
 kernel_rfl
open Go.RowKit
section
variable {w : World} {g c at_ q : Nat} {A : Option Addr} {b : By}
end
open Go.RowKit
structure GV where
 g:Gs
 wv:Value
 dv:Value
 iv:Value
 sv:Value
def aT(x:GV):Nat->Value
 |0=> .string (strOf x.g.name)
 |1=> .bool x.g.must
 |2=> .int .u32 x.g.off
 |3=> .int .u32 x.g.len
 |4=> .int .u32 x.g.gX
 |5=> .int .u64 x.g.entry
 |6=> .int .u64 x.g.Ac
 |i+7=>if i<68 then oM (kF x.g.key) i else if i=68 then x.wv else if i=69 then x.dv else if i=70 then x.iv else x.sv
def mG:Value:= .slice none 0 0
def vw:GV:=⟨⟨[],false,0,0,0,0,0,[],[],[],[],[]⟩,mG,mG,mG,mG⟩
structure GV1(x:GV):Prop where
 w:x.wv.oneCell'=true
 d:x.dv.oneCell'=true
 i:x.iv.oneCell'=true
 s:x.sv.oneCell'=true
theorem fC(x:GV)(h:GV1 x)(n:Nat):∀i,i<n->(aT x i).oneCell'=true:=by
 intro i _
 match i with
 |0=>rfl
 |1=>rfl
 |2=>rfl
 |3=>rfl
 |4=>rfl
 |5=>rfl
 |6=>rfl
 |i+7=>
  show(if i<68 then oM (kF x.g.key) i else if i=68 then x.wv else if i=69 then x.dv else if i=70 then x.iv else x.sv).oneCell'=true
  split
  · rfl
  · split
    · exact h.w
    · split
      · exact h.d
      · split
        · exact h.i
        · exact h.s
theorem dU:(Tryz.prog.info? 63).map (·.size)=some 79:=by kernel_rfl
theorem oZ(w:World):(zeroValue 63).run Tryz.prog w= .ok (.agg (vec 79 (aT vw))) w:=
 (zero_of_info (P:=Tryz.prog) (t:=63) (v:= .agg (vec 79 (aT vw))) (n:=79) (by kernel_rfl)).1 w
structure wZ(w:World)(base:Nat)(x:GV):Prop where
 wi:gW 67 4 bG w base x.wv x.g.wins
 de:gW 83 3 iC w base x.dv x.g.dG
 ir:gW 65 3 dV w base x.iv x.g.cO
 st:gW 27 1 mP w base x.sv x.g.strs
theorem gW.one{α:Type}{t:TypeId}{n:Nat}{enc:α->Nat->Value}{w:World}{base:Nat}{v:Value}{l:List α}(h:gW t n enc w base v l):v.oneCell'=true:=by
 obtain⟨A,c,rfl,_⟩:=h.form
 rfl
theorem wZ.one{w:World}{base:Nat}{x:GV}(h:wZ w base x):GV1 x:=⟨h.wi.one,h.de.one,h.ir.one,h.st.one⟩
theorem wZ.save{w w':World}{base g:Nat}{x:GV}(h:wZ w base x)(hs:Save g w w')(hg:g<base):wZ w' base x:=⟨h.wi.save hs hg,h.de.save hs hg,h.ir.save hs hg,h.st.save hs hg⟩
theorem wZ.on{w w':World}{base m:Nat}{x:GV}(h:wZ w base x)(hs:Below m w w')(hm:w.heap.size<=m):wZ w' base x:=⟨h.wi.on hs hm,h.de.on hs hm,h.ir.on hs hm,h.st.on hs hm⟩
theorem wZ.low{w:World}{base base':Nat}{x:GV}(h:wZ w base x)(hb:base'<=base):wZ w base' x:=⟨h.wi.low hb,h.de.low hb,h.ir.low hb,h.st.low hb⟩
section
variable {g : Nat} {A : Option Addr} {c : Nat} {b : By} {w W W1 : World} {r : Nat} {x : GV} {p p1 t1 : Nat}
end
open Go.RowKit
def Qv(a b:By):Bool:=(strOf a).toList==(strOf b).toList
structure qI(w:World)(B:Nat)(x:GV):Prop where
 wi:∃A c,x.wv= .slice A x.g.wins.length c/\ bI 4 bG w B A x.g.wins/\ x.g.wins.length<=9223372036854775807
 de:∃A c,x.dv= .slice A x.g.dG.length c/\ bI 3 iC w B A x.g.dG/\ x.g.dG.length<=9223372036854775807
 ir:∃A c,x.iv= .slice A x.g.cO.length c/\ bI 3 dV w B A x.g.cO/\ x.g.cO.length<=9223372036854775807
 st:∃A c,x.sv= .slice A x.g.strs.length c/\ bI 1 mP w B A x.g.strs/\ x.g.strs.length<=9223372036854775807
theorem qI.below{w w':World}{B:Nat}{x:GV}(h:qI w B x)(hb:Below B w w'):qI w' B x:=by
 obtain⟨⟨A,c,e,r,l⟩,⟨A2,c2,e2,r2,l2⟩,⟨A3,c3,e3,r3,l3⟩,⟨A4,c4,e4,r4,l4⟩⟩:=h;exact⟨⟨A,c,e,r.below hb,l⟩,⟨A2,c2,e2,r2.below hb,l2⟩,⟨A3,c3,e3,r3.below hb,l3⟩,⟨A4,c4,e4,r4.below hb,l4⟩⟩
theorem qI.wide{w:World}{B B':Nat}{x:GV}(h:qI w B x)(hb:B<=B'):qI w B' x:=by
 obtain⟨⟨A,c,e,r,l⟩,⟨A2,c2,e2,r2,l2⟩,⟨A3,c3,e3,r3,l3⟩,⟨A4,c4,e4,r4,l4⟩⟩:=h;exact⟨⟨A,c,e,r.wide hb,l⟩,⟨A2,c2,e2,r2.wide hb,l2⟩,⟨A3,c3,e3,r3.wide hb,l3⟩,⟨A4,c4,e4,r4.wide hb,l4⟩⟩
theorem qI.drewN{w:World}{B:Nat}{x:GV}(h:qI w B x)(k:Nat):qI (w.drewN k) B x:=h.below (below_drewN (aC B w) k)
theorem kN{P:Program}{ops:Array Oper}{Q:Exit->Act->World->Prop}{a:Act}{w:World}{rest:List Oper}{o:Oper}{v:Value}(hw:Region.wanted o (yielded ops a.tmps)=true)
  (he:(execOp a.eval o).run P w= .ok (.value v) w) (h:wpList P ops Q rest (a.put o.dst v) w):wpList P ops Q (o::rest) a w:=
 wpList_step fun K hK=>by
  simp only [hw,if_true];unfold Oper.wp;rw [he];exact hK _ _ h
def jc(r:Bool)(w:World)(e:Ending)(w':World):Prop:=e= .returned (.bool r)/\ Below w.heap.size w w'
theorem IY{w:World}{g:Nat}{t:TypeId}{x:GV}(h:aU w g t 79 (aT x)):∀i,i<68->w.cell? ⟨g,7+i,none⟩=some (oM (kF x.g.key) i):=fun i hi=>by
 rw [h.cell (by omega),Nat.add_comm 7 i];show some (if i<68 then oM (kF x.g.key) i else _)=_
 rw [if_pos hi]
open Go.RowKit
attribute [local go_sem ↓ high] oZ
open Go.RowKit
attribute [local go_sem ↓ high] gZ
theorem CB{α:Type}{n:Nat}{enc:α->Nat->Value}{w:World}{base:Nat}{t:TypeId}{v:Value}{l:List α}{P:Program}{ts:TypeId}{bytes:Nat}{z:Value}(hu:P.underlying ts=some (.slice t))(hinfo:(P.info? t).map (fun i=>(i.zero,i.size,i.bytes))=some (some z,n,bytes))(hz:z.cells.size=n)(hn:0<n)
  (x:α) (h1:∀i,i<n->(enc x i).oneCell'=true) (hown:gW t n enc w base v l) (hb:base<=w.heap.size) (hl:l.length<=1000000) (hby:bytes<=100000) (ty:TypeId):
  ∃B d w',(uZ #[ts,ts] ty #[v,.slice (some ⟨w.heap.size,0,none⟩) 1 1]).run P (w.alloc (.cells (vec n (enc x)) t))= .ok (.slice B (l.length+1) d) w'/\ gW t n enc w' base (.slice B (l.length+1) d) (l++ [x])/\ Below base w w'/\ w.heap.size<=w'.heap.size/\ (∀k,k<w.heap.size->some k≠v.ownBlock->w'.heap[k]?=w.heap[k]?)/\ ((Value.slice B (l.length+1) d).ownBlock=v.ownBlock∨(Value.slice B (l.length+1) d).ownBlock=some (w.heap.size+1)):=by
 obtain⟨i0,hi,hz0,hz1,hz2⟩:=info_parts hinfo;have hbz:(l.length+1)*bytes<=140737488355328:=aA (Nat.mul_le_mul (show l.length+1<=1000001 by omega) hby) (by decide);obtain⟨v',w',hr,h2,h3,_,h5⟩:=run_append_own_at (P:=P) (w.alloc (.cells (vec n (enc x)) t)) base ts ty t i0 z n bytes hu hi hz0 hz1 hz2 hz hn v l.length (cellsE n enc l) (hown.on ((aC _ _).alloc (aj _) _) (aj _))
  ⟨w.heap.size,0,none⟩ 1 1 (VZ n (enc x)) (by rw [qE,Nat.one_mul]) (Rz w (enc x) t n) (by
   intro u hu;obtain⟨i,hi,rfl⟩:=List.mem_map.1 hu;exact h1 i (List.mem_range.1 hi)) (by unfold maxLen;omega) hbz (by simp;omega)
 have hown2:gW t n enc w' base v' (l++ [x]):=by
  unfold gW;rw [DL,List.length_append];exact h2
 obtain⟨B,d,e,_,_,hbk⟩:=hown2.form;obtain⟨_,_,_,_,_,hbv⟩:=hown.form;rw [List.length_append,List.length_singleton]at e;subst e;have hbl:Below base w w':=(((aC base w).alloc hb _).grown h3 (by simp;omega) fun k hk=>(hbv k hk).1);exact⟨B,d,w',hr,hown2,hbl,hbl.size,fun k hk hne=>(h3.block k (by simp;omega) hne).trans (Below.heap_alloc w _ k hk),h5.imp id fun h=>by rw [h];simp⟩
theorem gW.grown{α:Type}{n:Nat}{enc:α->Nat->Value}{w w':World}{base:Nat}{t:TypeId}{v:Value}{l:List α}(h:gW t n enc w base v l){o:Option Nat}(hs:∀k,k<w.heap.size->some k≠o->w'.heap[k]?=w.heap[k]?)(ho:v.ownBlock=none∨v.ownBlock≠o):gW t n enc w' base v l:=by
 refine⟨h.1, ?_⟩;rcases h.2 with h2|⟨k,cap,cur,rfl,hk,hh,r⟩
 · exact Or.inl h2
 · refine Or.inr ⟨k,cap,cur,rfl,hk,(hs k (Array.getElem?_eq_some_iff.1 hh).1 fun e=> ?_).trans hh,r⟩
   rcases ho with h0|h0
   · simp [Value.ownBlock]at h0
   · exact h0 (by simp [Value.ownBlock];exact e)
structure Apart(y:GV)(v:Value):Prop where
 w:∀k,y.wv.ownBlock=some k->v.ownBlock≠some k
 d:∀k,y.dv.ownBlock=some k->v.ownBlock≠some k
 i:∀k,y.iv.ownBlock=some k->v.ownBlock≠some k
 s:∀k,y.sv.ownBlock=some k->v.ownBlock≠some k
theorem gW.bnd{α:Type}{n:Nat}{enc:α->Nat->Value}{w:World}{base:Nat}{t:TypeId}{v:Value}{l:List α}(h:gW t n enc w base v l){k:Nat}(hk:v.ownBlock=some k):base<=k/\ k<w.heap.size:=by
 obtain⟨_,_,_,_,_,hb⟩:=h.form;exact hb k hk
theorem gW.AU{α:Type}{n:Nat}{enc:α->Nat->Value}{w w':World}{base:Nat}{t:TypeId}{v:Value}{l:List α}(h:gW t n enc w base v l){o:Option Nat}(hs:∀k,k<w.heap.size->some k≠o->w'.heap[k]?=w.heap[k]?)(ho:∀k,v.ownBlock=some k->o≠some k):gW t n enc w' base v l:=by
 refine h.grown hs ?_;cases hv:v.ownBlock with
 |none=>exact .inl rfl
 |some k=>exact .inr fun e=>ho k hv e.symm
theorem wZ.AU{w w':World}{base:Nat}{y:GV}{v:Value}(h:wZ w base y)(hs:∀k,k<w.heap.size->some k≠v.ownBlock->w'.heap[k]?=w.heap[k]?)(ha:Apart y v):wZ w' base y:=
 ⟨h.wi.AU hs ha.w,h.de.AU hs ha.d,h.ir.AU hs ha.i,h.st.AU hs ha.s⟩
theorem Apart.next{w:World}{base m:Nat}{y:GV}{v v':Value}(ha:Apart y v)(h:wZ w base y)(hm:w.heap.size<=m)(ho:v'.ownBlock=v.ownBlock∨v'.ownBlock=some m):Apart y v':=by
 refine⟨fun k hk=> ?_,fun k hk=> ?_,fun k hk=> ?_,fun k hk=> ?_⟩
 · rcases ho with e|e<;>rw [e]
   · exact ha.w k hk
   · intro e2;injection e2 with e2;have:=(h.wi.bnd hk).2;omega
 · rcases ho with e|e<;>rw [e]
   · exact ha.d k hk
   · intro e2;injection e2 with e2;have:=(h.de.bnd hk).2;omega
 · rcases ho with e|e<;>rw [e]
   · exact ha.i k hk
   · intro e2;injection e2 with e2;have:=(h.ir.bnd hk).2;omega
 · rcases ho with e|e<;>rw [e]
   · exact ha.s k hk
   · intro e2;injection e2 with e2;have:=(h.st.bnd hk).2;omega
theorem Apart.new{w:World}{m:Nat}{y:GV}{v:Value}(h:wZ w m y)(hv:∀k,v.ownBlock=some k->k<m):Apart y v:=by
 refine⟨fun k hk e=> ?_,fun k hk e=> ?_,fun k hk e=> ?_,fun k hk e=> ?_⟩
 · have:=hv k e;have:=(h.wi.bnd hk).1;omega
 · have:=hv k e;have:=(h.de.bnd hk).1;omega
 · have:=hv k e;have:=(h.ir.bnd hk).1;omega
 · have:=hv k e;have:=(h.st.bnd hk).1;omega
def lJ(base:Nat)(w:World)(l:List Gs)(v:Value):Prop:=∃ys:List GV,ys.map GV.g=l/\ (∀y∈ys,y.g.key.length=68)/\ gW 63 79 aT w base v ys/\ ∀y∈ys,wZ w base y/\ Apart y v
theorem lJ.nil(base:Nat)(w:World):lJ base w [] (.slice none 0 0):=⟨[],rfl,(fun _ h=>by cases h),gW.nil _ _,(fun _ h=>by cases h)⟩
theorem lJ.save{base g:Nat}{w w':World}{l:List Gs}{v:Value}(h:lJ base w l v)(hs:Save g w w')(hg:g<base):lJ base w' l v:=by
 obtain⟨ys,h1,h2,h3,h4⟩:=h;exact⟨ys,h1,h2,h3.save hs hg,fun y hy=>⟨(h4 y hy).1.save hs hg,(h4 y hy).2⟩⟩
theorem lJ.on{base m:Nat}{w w':World}{l:List Gs}{v:Value}(h:lJ base w l v)(hs:Below m w w')(hm:w.heap.size<=m):lJ base w' l v:=by
 obtain⟨ys,h1,h2,h3,h4⟩:=h;exact⟨ys,h1,h2,h3.on hs hm,fun y hy=>⟨(h4 y hy).1.on hs hm,(h4 y hy).2⟩⟩
theorem lJ.form{base:Nat}{w:World}{l:List Gs}{v:Value}(h:lJ base w l v):∃A c,v= .slice A l.length c:=by
 obtain⟨ys,h1,h2,h3,h4⟩:=h;obtain⟨A,c,e,_⟩:=h3.form;exact⟨A,c,by rw [e, <-h1,List.length_map]⟩
theorem FD:(Tryz.prog.info? 63).map (fun i=>(i.zero,i.size,i.bytes))=some (some (.agg (vec 79 (aT vw))),79,216):=by kernel_rfl
theorem lJ.app{base:Nat}{w w1:World}{g:Nat}{l:List Gs}{v:Value}{x:Gs}{y:GV}(h:lJ base w l v)(hs:Save g w w1)(hg:g<base)(hb:base<=w.heap.size)(hl:l.length<=1000)(hy:y.g=x)(hk:x.key.length=68)(ho:wZ w1 w.heap.size y):
   ∃B d w2,(uZ #[28,28] 28 #[v,.slice (some ⟨w1.heap.size,0,none⟩) 1 1]).run Tryz.prog (w1.alloc (.cells (vec 79 (aT y)) 63))= .ok (.slice B (l.length+1) d) w2/\ lJ base w2 (l++ [x]) (.slice B (l.length+1) d)/\ Below base w1 w2:=by
 obtain⟨ys,h1,h2,h3,h4⟩:=h;have hlen:ys.length=l.length:=(by rw [<-h1,List.length_map]);obtain⟨B,d,w2,hr,h5,h6,h7,h8,h9⟩:=CB (P:=Tryz.prog) Tryz.underlying28 FD (iR _ _) (by decide) y (fC y ho.one 79) (h3.save hs hg) (aA hb hs.size) (by omega) (by decide) 28;rw [hlen]at hr h5 h9;have hvb:∀k,v.ownBlock=some k->k<w.heap.size:=(fun k hk=>(h3.bnd hk).2);refine⟨B,d,w2,hr,⟨ys++ [y],by rw [List.map_append,h1];simp [hy],fun z hz=> ?_,h5,fun z hz=> ?_⟩,h6⟩
 · rcases List.mem_append.1 hz with hz|hz
   · exact h2 z hz
   · obtain rfl:z=y:=by simpa using hz
     rw [hy];exact hk
 · rcases List.mem_append.1 hz with hz|hz
   · have ho1:=(h4 z hz).1.save hs hg
     exact⟨ho1.AU h8 (h4 z hz).2,(h4 z hz).2.next ho1 (Nat.le_succ _) h9⟩
   · obtain rfl:z=y:=by simpa using hz
     have ha:=Apart.new ho hvb;exact⟨(ho.AU h8 ha).low hb,ha.next ho (Nat.le_succ _) h9⟩
open Go.RowKit
def eX(ver:Int)(a c:Value):Nat->Value
 |0=> .int .u32 ver
 |1=>a
 |_=>c
theorem pW(ver:Int)(a c:Value)(ha:a.oneCell'=true)(hc:c.oneCell'=true)(n:Nat):∀i,i<n->(eX ver a c i).oneCell'=true:=by
 intro i _
 match i with
 |0=>rfl
 |1=>exact ha
 |_+2=>exact hc
theorem dR:(Tryz.prog.info? 31).map (·.size)=some 3:=by kernel_rfl
theorem nK(w:World):(zeroValue 31).run Tryz.prog w= .ok (.agg (vec 3 (eX 0 mG mG))) w:=
 (zero_of_info (P:=Tryz.prog) (t:=31) (v:= .agg (vec 3 (eX 0 mG mG))) (n:=3) (by kernel_rfl)).1 w
attribute [local go_sem ↓ high] nK
theorem lJ.low{base base':Nat}{w:World}{l:List Gs}{v:Value}(h:lJ base w l v)(hb:base'<=base):lJ base' w l v:=by
 obtain⟨ys,h1,h2,h3,h4⟩:=h;exact⟨ys,h1,h2,h3.low hb,fun y hy=>⟨(h4 y hy).1.low hb,(h4 y hy).2⟩⟩
open Go.RowKit
attribute [local go_sem ↓ high] oZ
theorem qI.one{w:World}{B:Nat}{x:GV}(h:qI w B x):GV1 x:=by
 obtain⟨⟨A,c,e,_,_⟩,⟨A2,c2,e2,_,_⟩,⟨A3,c3,e3,_,_⟩,⟨A4,c4,e4,_,_⟩⟩:=h;exact⟨by rw [e];rfl,by rw [e2];rfl,by rw [e3];rfl,by rw [e4];rfl⟩
structure Qi(w:World)(B:Nat)(A:Option Addr)(ys:List GV):Prop where
 row:bI 79 aT w B A ys
 all:∀y∈ys,qI w B y
theorem Qi.below{w w':World}{B:Nat}{A:Option Addr}{ys:List GV}(h:Qi w B A ys)(hb:Below B w w'):Qi w' B A ys:=⟨h.row.below hb,fun y hy=>(h.all y hy).below hb⟩
theorem Qi.wide{w:World}{B B':Nat}{A:Option Addr}{ys:List GV}(h:Qi w B A ys)(hb:B<=B'):Qi w B' A ys:=⟨h.row.wide hb,fun y hy=>(h.all y hy).wide hb⟩
theorem Qi.up{w w':World}{A:Option Addr}{ys:List GV}(h:Qi w w.heap.size A ys)(hb:Below w.heap.size w w'):Qi w' w'.heap.size A ys:=(h.below hb).wide hb.size
structure Ai(w:World)(B:Nat)(x:Cf)(a c:Value):Prop where
 gs:∃A d ys,a= .slice A x.gs.length d/\ ys.map GV.g=x.gs/\ Qi w B A ys/\ x.gs.length<=9223372036854775807
 dH:∃A d,c= .slice A x.dH.length d/\ bI 8 kJ w B A x.dH/\ x.dH.length<=9223372036854775807
theorem Ai.below{w w':World}{B:Nat}{x:Cf}{a c:Value}(h:Ai w B x a c)(hb:Below B w w'):Ai w' B x a c:=by
 obtain⟨⟨A,d,ys,e,hm,hr,hl⟩,⟨A2,d2,e2,hr2,hl2⟩⟩:=h;exact⟨⟨A,d,ys,e,hm,hr.below hb,hl⟩,⟨A2,d2,e2,hr2.below hb,hl2⟩⟩
theorem Ai.wide{w:World}{B B':Nat}{x:Cf}{a c:Value}(h:Ai w B x a c)(hb:B<=B'):Ai w B' x a c:=by
 obtain⟨⟨A,d,ys,e,hm,hr,hl⟩,⟨A2,d2,e2,hr2,hl2⟩⟩:=h;exact⟨⟨A,d,ys,e,hm,hr.wide hb,hl⟩,⟨A2,d2,e2,hr2.wide hb,hl2⟩⟩
theorem Ai.up{w w':World}{x:Cf}{a c:Value}(h:Ai w w.heap.size x a c)(hb:Below w.heap.size w w'):Ai w' w'.heap.size x a c:=(h.below hb).wide hb.size
def ji(x:Cf)(a c:Value):Value:= .agg (vec 3 (eX x.ver a c))
theorem vF{w:World}{g:Nat}{t:TypeId}{x:Cf}{a c:Value}(h:aU w g t 3 (eX x.ver a c)):w.cell? ⟨g,0,none⟩=some (.int .u32 x.ver)/\ w.cell? ⟨g,1,none⟩=some a/\ w.cell? ⟨g,2,none⟩=some c:=⟨h.cell (i:=0) (by decide),h.cell (i:=1) (by decide),h.cell (i:=2) (by decide)⟩
open Go.ChangeShapes Go.WideShapes Go.ChangeAt Go.RowKit Go.Deep
def vJ(z:Int):Prop:=0<=z/\ z<=18446744073709551615
def rP(z:Int):Prop:=0<=z/\ z<=4294967295
def yI(z:Int):Prop:= -9223372036854775808<=z/\ z<=9223372036854775807
def KW(x:Wi):Prop:=vJ x.fZ/\ vJ x.pa/\ vJ x.size/\ yI x.perm
def W9(x:De):Prop:=vJ x.fZ/\ vJ x.pa/\ vJ x.size
def IrB(x:Ir):Prop:=yI x.number/\ yI x.cpu
def EnB(x:En):Prop:=yI x.bK/\ yI x.perm/\ vJ x.fZ
def Ui(x:Ch):Prop:=vJ x.pa/\ vJ x.size/\ EnB x.a/\ EnB x.b
structure GsB(g:Gs):Prop where
 off:rP g.off
 len:rP g.len
 gX:rP g.gX
 entry:vJ g.entry
 Ac:vJ g.Ac
 key:g.key.length=68
 wins:∀y∈g.wins,KW y
 dG:∀y∈g.dG,W9 y
 cO:∀y∈g.cO,IrB y
 strs:∀y∈g.strs,rP y
structure Aj(c:Cf):Prop where
 ver:rP c.ver
 gs:∀g∈c.gs,GsB g
 dH:∀y∈c.dH,Ui y
def adK(y:GV):Prop:=∃A c,y.wv= .slice A y.g.wins.length c/\ y.g.wins.length<=c
def uw(w:World)(B:Nat)(x:Cf)(a c:Value):Prop:=Ai w B x a c/\ ∃A d ys,a= .slice A x.gs.length d/\ ys.map GV.g=x.gs/\ Qi w B A ys/\ ∀y∈ys,adK y
theorem uw.below{w w':World}{B:Nat}{x:Cf}{a c:Value}(h:uw w B x a c)(hb:Below B w w'):uw w' B x a c:=by
 obtain⟨h1,A,d,ys,e,hm,hr,hc⟩:=h;exact⟨h1.below hb,A,d,ys,e,hm,hr.below hb,hc⟩
theorem uw.wide{w:World}{B B':Nat}{x:Cf}{a c:Value}(h:uw w B x a c)(hb:B<=B'):uw w B' x a c:=by
 obtain⟨h1,A,d,ys,e,hm,hr,hc⟩:=h;exact⟨h1.wide hb,A,d,ys,e,hm,hr.wide hb,hc⟩
theorem Ku{α:Type}{Φ:Nat->α->Prop}:∀n,(∀i,i<n->∃x,Φ i x)->∃l:List α,l.length=n/\ ∀j (h:j<l.length),Φ j l[j]
 |0,_=>⟨[],rfl,fun j h=>by cases h⟩
 |n+1,h=>by
  obtain⟨l,hl,hf⟩:=Ku n fun i hi=>h i (by omega);obtain⟨x,hx⟩:=h n (by omega);refine⟨l++ [x],by simp [hl],fun j hj=> ?_⟩;rw [List.getElem_append]
  split
  · rename_i h1;exact hf j h1
  · rename_i h1
    have:j=n:=(by simp at hj;omega);subst this;simp only [hl,Nat.sub_self,List.getElem_cons_zero];exact hx
theorem ng{L:List Value}{o:Nat}(h:o<L.length):(L.drop o).take 1=[L[o]]:=by
 rw [List.drop_eq_getElem_cons h];rfl
section
variable {H : Type} {enc : TypeId × Value -> H} {P : Program} {W : World} {r : Reach} {base : Nat} {sp : Nat -> Bool} {held : Bool} {fuel : Nat}
theorem yZ{t e:TypeId}{n:Nat}{cs:List Value}{x:DataW H × List MemPlace}(ht:P.underlying t=some (.array n e))
  (h:DataW.trod enc P W base sp held fuel t cs=some x):∃ds p,x=(.agg ds,p):=by
 cases fuel with
 |zero=>simp [DataW.trod]at h
 |succ fuel=>
  simp only [DataW.trod,ht]at h
  split at h
  · obtain⟨xs,hm,hx⟩:=Option.map_eq_some_iff.1 h
    exact⟨_,_,hx.symm⟩
  · cases h
section
variable {t : TypeId} {L : List Value} {o : Nat} {y : DataW H × List MemPlace}
theorem iM{k:IntKind}(ht:P.underlying t=some (.int k))(hc:P.cellsOf t=1)(ho:o<L.length)(h:DataW.trod enc P W base sp held fuel t ((L.drop o).take (P.cellsOf t))=some y):∃z,L[o]?=some (.int k z)/\ (Lit.int k z).wf=true:=by
 rw [hc,ng ho]at h;obtain⟨z,e,_,hw⟩:=DataW.trod_int ht h;simp at e;exact⟨z,by rw [aF ho,e],hw⟩
theorem Js(ht:P.underlying t=some .bool)(hc:P.cellsOf t=1)(ho:o<L.length)(h:DataW.trod enc P W base sp held fuel t ((L.drop o).take (P.cellsOf t))=some y):∃z,L[o]?=some (.bool z):=by
 rw [hc,ng ho]at h;obtain⟨z,e,_⟩:=DataW.trod_bool ht h;simp at e;exact⟨z,by rw [aF ho,e]⟩
theorem YD(ht:P.underlying t=some .string)(hc:P.cellsOf t=1)(ho:o<L.length)(h:DataW.trod enc P W base sp held fuel t ((L.drop o).take (P.cellsOf t))=some y):∃s:By,L[o]?=some (.string (strOf s)):=by
 rw [hc,ng ho]at h;obtain⟨z,e,_⟩:=DataW.trod_string ht h;simp at e;refine⟨z.data.toList, ?_⟩;rw [aF ho,e]
 rfl
end
theorem sS{α:Type}{n:Nat}{enE:α->Nat->Value}{Φ:α->Prop}{ts te:TypeId}{v:Value}{x:DataW H × List MemPlace}(ht:P.underlying ts=some (.slice te))(hC:P.cellsOf te=n)(hn:0<n)
   (hel:∀ {fuel:Nat} {L:List Value} {x:DataW H × List MemPlace},L.length=n->DataW.trod enc P W 0 sp held fuel te L=some x->∃y:α,(∀i,i<n->L[i]?=some (enE y i))/\ Φ y)
   (h:DataW.trod enc P W 0 sp held fuel ts [v]=some x):
   ∃ (A:Option Addr) (c:Nat) (l:List α),v= .slice A l.length c/\ l.length<=9223372036854775807/\ bI n enE W W.heap.size A l/\ (∀y∈l,Φ y)/\ l.length<=c:=by
 rcases open_slice ht h with⟨hcs,_⟩|⟨a,len,cap,m,n',D,Pl,hcs,_,hle,hm,hmm,_,hi⟩
 · injection hcs with hcs
   exact⟨none,0,[],hcs,aB _,bI.nil _ _ _,(fun x hx=>by cases hx),aj _⟩
 · injection hcs with hcs
   have hlm:len<=m:=(by rw [hmm];split<;>omega);have key:∀i,i<len->∃y:α,(∀j,j<n->W.cell? (a.add (i*n+j))=some (enE y j))/\ Φ y:=by
     intro i hil;obtain⟨cs,hc,ht'⟩:=hi i (by omega);rw [hC]at hc;obtain⟨_,hcl,hat⟩:=World.cells?_some hc;obtain⟨y,hf,hφ⟩:=hel (by omega) ht';refine⟨y,fun j hj=> ?_,hφ⟩;have:=hat j (by omega);rw [<-Go.Deep.add_add,this];exact hf j hj
   obtain⟨l,hl,hc⟩:=Ku len key;subst hl;refine⟨some a,cap,l,hcs,by unfold maxLen at hm;omega,fun hne=>⟨a,rfl, ?_,fun j hj i hi=>(hc j hj).1 i hi⟩,fun x hx=> ?_,hle⟩
   · have hpos:0<l.length:=List.length_pos_iff.2 hne
     have:=(hc 0 hpos).1 0 hn;have e0:a.add (0*n+0)=a:=(by simp [Addr.add]);rw [e0]at this;exact aG W a this
   · obtain⟨j,hj,rfl⟩:=List.mem_iff_getElem.1 hx
     exact(hc j hj).2
end
section
variable {H : Type} {enc : TypeId × Value -> H} {W : World} {r : Reach} {base : Nat} {sp : Nat -> Bool} {held : Bool} {fuel : Nat} {L : List Value} {x : DataW H × List MemPlace}
theorem xU:Tryz.prog.cellsOf 22=1:=by kernel_rfl
theorem SY:Tryz.prog.cellsOf 27=1:=by kernel_rfl
theorem c1I:Tryz.prog.cellsOf 3=1:=by kernel_rfl
theorem c1B:Tryz.prog.cellsOf 4=1:=by kernel_rfl
theorem c1S:Tryz.prog.cellsOf 9=1:=by kernel_rfl
theorem akR:Tryz.prog.cellsOf 5=1:=by kernel_rfl
theorem qm{z:Int}(h:(Lit.int .u64 z).wf=true):vJ z:=by have:=bounds_u64 h;unfold vJ;first|omega|(unfold am9 at this;omega)
theorem Bo{z:Int}(h:(Lit.int .u32 z).wf=true):rP z:=by have:=bounds_u32 h;unfold rP;omega
theorem Bq{z:Int}(h:(Lit.int .i64 z).wf=true):yI z:=by have:=bounds_i64 h;unfold yI;omega
theorem YE(hl:L.length=4)(h:DataW.trod enc Tryz.prog W 0 sp held fuel 67 L=some x):∃y:Wi,(∀i,i<4->L[i]?=some (bG y i))/\ KW y:=by
 obtain⟨y0,y1,y2,y3,n,-,-,h0,h1,h2,h3⟩:=Joins.trod_struct4 Tryz.underlying67 h;obtain⟨z0,e0,w0⟩:=iM (o:=0) Tryz.underlying22 xU (by omega) h0;obtain⟨z1,e1,w1⟩:=iM (o:=1) Tryz.underlying22 xU (by omega) h1;obtain⟨z2,e2,w2⟩:=iM (o:=2) Tryz.underlying22 xU (by omega) h2;obtain⟨z3,e3,w3⟩:=iM (o:=3) Tryz.underlying3 c1I (by omega) h3;refine⟨⟨z0,z1,z2,z3⟩,fun i hi=> ?_,qm w0,qm w1,qm w2,Bq w3⟩
 match i,hi with
 |0,_=>exact e0
 |1,_=>exact e1
 |2,_=>exact e2
 |3,_=>exact e3
theorem YF(hl:L.length=3)(h:DataW.trod enc Tryz.prog W 0 sp held fuel 83 L=some x):∃y:De,(∀i,i<3->L[i]?=some (iC y i))/\ W9 y:=by
 obtain⟨y0,y1,y2,n,-,-,h0,h1,h2⟩:=trod_struct3 Tryz.underlying83 h;obtain⟨z0,e0,w0⟩:=iM (o:=0) Tryz.underlying22 xU (by omega) h0;obtain⟨z1,e1,w1⟩:=iM (o:=1) Tryz.underlying22 xU (by omega) h1;obtain⟨z2,e2,w2⟩:=iM (o:=2) Tryz.underlying22 xU (by omega) h2;refine⟨⟨z0,z1,z2⟩,fun i hi=> ?_,qm w0,qm w1,qm w2⟩
 match i,hi with
 |0,_=>exact e0
 |1,_=>exact e1
 |2,_=>exact e2
theorem YG(hl:L.length=3)(h:DataW.trod enc Tryz.prog W 0 sp held fuel 65 L=some x):∃y:Ir,(∀i,i<3->L[i]?=some (dV y i))/\ IrB y:=by
 obtain⟨y0,y1,y2,n,-,-,h0,h1,h2⟩:=trod_struct3 Tryz.underlying65 h;obtain⟨z0,e0,w0⟩:=iM (o:=0) Tryz.underlying3 c1I (by omega) h0;obtain⟨z1,e1,w1⟩:=iM (o:=1) Tryz.underlying3 c1I (by omega) h1;obtain⟨z2,e2⟩:=Js (o:=2) Tryz.underlying4 c1B (by omega) h2;refine⟨⟨z0,z1,z2⟩,fun i hi=> ?_,Bq w0,Bq w1⟩
 match i,hi with
 |0,_=>exact e0
 |1,_=>exact e1
 |2,_=>exact e2
theorem Og(hl:L.length=3)(h:DataW.trod enc Tryz.prog W 0 sp held fuel 44 L=some x):∃y:En,(∀i,i<3->L[i]?=some (dY y i))/\ EnB y:=by
 obtain⟨y0,y1,y2,n,-,-,h0,h1,h2⟩:=trod_struct3 Tryz.underlying44 h;obtain⟨z0,e0,w0⟩:=iM (o:=0) Tryz.underlying3 c1I (by omega) h0;obtain⟨z1,e1,w1⟩:=iM (o:=1) Tryz.underlying3 c1I (by omega) h1;obtain⟨z2,e2,w2⟩:=iM (o:=2) Tryz.underlying22 xU (by omega) h2;refine⟨⟨z0,z1,z2⟩,fun i hi=> ?_,Bq w0,Bq w1,qm w2⟩
 match i,hi with
 |0,_=>exact e0
 |1,_=>exact e1
 |2,_=>exact e2
theorem Vp(_hl:L.length=1)(h:DataW.trod enc Tryz.prog W 0 sp held fuel 27 L=some x):∃y:Int,(∀i,i<1->L[i]?=some (mP y i))/\ rP y:=by
 obtain⟨z,e,_,hw⟩:=DataW.trod_int Tryz.underlying27 h;refine⟨z,fun i hi=> ?_,Bo hw⟩;obtain rfl:i=0:=by omega
 rw [e];rfl
theorem YH(hl:L.length=8)(h:DataW.trod enc Tryz.prog W 0 sp held fuel 47 L=some x):∃y:Ch,(∀i,i<8->L[i]?=some (kJ y i))/\ Ui y:=by
 obtain⟨y0,y1,y2,n,-,-,h0,h1,h2⟩:=trod_struct3 Tryz.underlying47 h;obtain⟨z0,e0,w0⟩:=iM (o:=0) Tryz.underlying22 xU (by omega) h0;obtain⟨z1,e1,w1⟩:=iM (o:=1) Tryz.underlying22 xU (by omega) h1;have hE:Tryz.prog.cellsOf 44=3:=(by kernel_rfl);have h2':DataW.trod enc Tryz.prog W 0 sp held n 45 ((L.drop 2).take (Tryz.prog.cellsOf 45))=some y2:=h2;rw [show Tryz.prog.cellsOf 45=6 by kernel_rfl]at h2';obtain⟨ds,p,hx⟩:=yZ Tryz.underlying45 h2';rw [hx]at h2';obtain⟨f1,d1,q1,_,g1⟩:=Lib.array_elem Tryz.underlying45 h2' 0 (by decide);obtain⟨f2,d2,q2,_,g2⟩:=Lib.array_elem Tryz.underlying45 h2' 1 (by decide);rw [hE]at g1 g2;obtain⟨u,hu,bu⟩:=Og (by simp [hl]) g1;obtain⟨v,hv,bv⟩:=Og (by simp [hl]) g2;have hu':∀i,i<3->L[2+i]?=some (dY u i):=fun i hi=>by
  have:=hu i hi;simp only [List.getElem?_take,List.getElem?_drop]at this;rw [if_pos hi,if_pos (by omega)]at this;rw [<-this];congr 1;omega
 have hv':∀i,i<3->L[5+i]?=some (dY v i):=fun i hi=>by
  have:=hv i hi;simp only [List.getElem?_take,List.getElem?_drop]at this;rw [if_pos hi,if_pos (by omega)]at this;rw [<-this];congr 1;omega
 refine⟨⟨z0,z1,u,v⟩,fun i hi=> ?_,qm w0,qm w1,bu,bv⟩
 match i,hi with
 |0,_=>exact e0
 |1,_=>exact e1
 |2,_=>exact hu' 0 (by decide)
 |3,_=>exact hu' 1 (by decide)
 |4,_=>exact hu' 2 (by decide)
 |5,_=>exact hv' 0 (by decide)
 |6,_=>exact hv' 1 (by decide)
 |7,_=>exact hv' 2 (by decide)
theorem Vq(hl:L.length=68)(h:DataW.trod enc Tryz.prog W 0 sp held fuel 52 L=some x):∃k:By,k.length=68/\ ∀i,i<68->L[i]?=some (oM (kF k) i):=by
 obtain⟨ds,p,hx⟩:=yZ Tryz.underlying52 h;rw [hx]at h;have hel:∀j,j<68->∃b:UInt8,L[j]?=some (.int .u8 (b.toNat:Int)):=by
  intro j hj;obtain⟨f1,d1,q1,_,g1⟩:=Lib.array_elem Tryz.underlying52 h j hj;rw [akR,Nat.mul_one]at g1;rw [ng (by omega)]at g1;obtain⟨z,e2,_,hw⟩:=DataW.trod_int Tryz.underlying5 g1;simp at e2;have hb:=bounds_u8 hw;refine⟨UInt8.ofNat z.toNat, ?_⟩;rw [aF (by omega),e2]
  congr 2
  rw [UInt8.toNat_ofNat'];omega
 obtain⟨k,hk,hc⟩:=Ku 68 hel;refine⟨k,hk,fun i hi=> ?_⟩;rw [hc i (by omega)];simp [oM,kF,aF (show i<k.length by omega)]
theorem akS:Tryz.prog.cellsOf 58=1:=by kernel_rfl
theorem akT:Tryz.prog.cellsOf 59=1:=by kernel_rfl
theorem akU:Tryz.prog.cellsOf 60=1:=by kernel_rfl
theorem akV:Tryz.prog.cellsOf 61=1:=by kernel_rfl
theorem akW:Tryz.prog.cellsOf 28=1:=by kernel_rfl
theorem akX:Tryz.prog.cellsOf 29=1:=by kernel_rfl
theorem Oh(hl:L.length=79)(h:DataW.trod enc Tryz.prog W 0 sp held fuel 63 L=some x):∃y:GV,(∀i,i<79->L[i]?=some (aT y i))/\ (qI W W.heap.size y/\ GsB y.g)/\ adK y:=by
 obtain⟨xs,n,-,-,-,hlen,hg⟩:=DataW.trod_struct Tryz.underlying63 h
 match xs,hlen with
 | [y0,y1,y2,y3,y4,y5,y6,y7,y8,y9,nD,jq],_=>
  have h0:DataW.trod enc Tryz.prog W 0 sp held n 9 ((L.drop 0).take (Tryz.prog.cellsOf 9))=some y0:=hg 0 _ rfl;have h1:DataW.trod enc Tryz.prog W 0 sp held n 4 ((L.drop 1).take (Tryz.prog.cellsOf 4))=some y1:=hg 1 _ rfl;have h2:DataW.trod enc Tryz.prog W 0 sp held n 27 ((L.drop 2).take (Tryz.prog.cellsOf 27))=some y2:=hg 2 _ rfl;have h3:DataW.trod enc Tryz.prog W 0 sp held n 27 ((L.drop 3).take (Tryz.prog.cellsOf 27))=some y3:=hg 3 _ rfl;have h4:DataW.trod enc Tryz.prog W 0 sp held n 27 ((L.drop 4).take (Tryz.prog.cellsOf 27))=some y4:=hg 4 _ rfl;have h5:DataW.trod enc Tryz.prog W 0 sp held n 22 ((L.drop 5).take (Tryz.prog.cellsOf 22))=some y5:=hg 5 _ rfl;have h6:DataW.trod enc Tryz.prog W 0 sp held n 22 ((L.drop 6).take (Tryz.prog.cellsOf 22))=some y6:=hg 6 _ rfl;have h7:DataW.trod enc Tryz.prog W 0 sp held n 52 ((L.drop 7).take (Tryz.prog.cellsOf 52))=some y7:=hg 7 _ rfl;have h8:DataW.trod enc Tryz.prog W 0 sp held n 58 ((L.drop 75).take (Tryz.prog.cellsOf 58))=some y8:=hg 8 _ rfl;have h9:DataW.trod enc Tryz.prog W 0 sp held n 59 ((L.drop 76).take (Tryz.prog.cellsOf 59))=some y9:=hg 9 _ rfl;have h10:DataW.trod enc Tryz.prog W 0 sp held n 60 ((L.drop 77).take (Tryz.prog.cellsOf 60))=some nD:=hg 10 _ rfl;have h11:DataW.trod enc Tryz.prog W 0 sp held n 61 ((L.drop 78).take (Tryz.prog.cellsOf 61))=some jq:=hg 11 _ rfl;obtain⟨z0,e0⟩:=YD Tryz.underlying9 c1S (by omega) h0;obtain⟨z1,e1⟩:=Js Tryz.underlying4 c1B (by omega) h1;obtain⟨z2,e2,w2⟩:=iM Tryz.underlying27 SY (by omega) h2;obtain⟨z3,e3,w3⟩:=iM Tryz.underlying27 SY (by omega) h3;obtain⟨z4,e4,w4⟩:=iM Tryz.underlying27 SY (by omega) h4;obtain⟨z5,e5,w5⟩:=iM Tryz.underlying22 xU (by omega) h5;obtain⟨z6,e6,w6⟩:=iM Tryz.underlying22 xU (by omega) h6;rw [show Tryz.prog.cellsOf 52=68 by kernel_rfl]at h7;obtain⟨z7,k7,e7⟩:=Vq (by simp [hl]) h7;have e7':∀i,i<68->L[7+i]?=some (oM (kF z7) i):=fun i hi=>by
   have:=e7 i hi;simp only [List.getElem?_take,List.getElem?_drop]at this;rw [if_pos hi]at this;exact this
  rw [akS,ng (by omega)]at h8;obtain⟨A0,c0,l0,e8,b0,r0,q0,k0⟩:=sS Tryz.underlying58 (by kernel_rfl) (by decide) (fun hl h=>YE hl h) h8;have e8':L[75]?=some (.slice A0 l0.length c0):=(by rw [aF (by omega),e8]);rw [akT,ng (by omega)]at h9;obtain⟨A1,c1,l1,e9,b1,r1,q1,-⟩:=sS Tryz.underlying59 (by kernel_rfl) (by decide) (fun hl h=>YF hl h) h9;have e9':L[76]?=some (.slice A1 l1.length c1):=(by rw [aF (by omega),e9]);rw [akU,ng (by omega)]at h10;obtain⟨A2,c2,l2,e10,b2,r2,q2,-⟩:=sS Tryz.underlying60 (by kernel_rfl) (by decide) (fun hl h=>YG hl h) h10;have akY:L[77]?=some (.slice A2 l2.length c2):=(by rw [aF (by omega),e10]);rw [akV,ng (by omega)]at h11;obtain⟨A3,c3,l3,e11,b3,r3,q3,-⟩:=sS Tryz.underlying61 (by kernel_rfl) (by decide) (fun hl h=>Vp hl h) h11;have akZ:L[78]?=some (.slice A3 l3.length c3):=(by rw [aF (by omega),e11]);refine⟨⟨⟨z0,z1,z2,z3,z4,z5,z6,z7,l0,l1,l2,l3⟩,.slice A0 l0.length c0,.slice A1 l1.length c1,.slice A2 l2.length c2,.slice A3 l3.length c3⟩,fun i hi=> ?_,⟨⟨⟨_,_,rfl,r0,b0⟩,⟨_,_,rfl,r1,b1⟩,⟨_,_,rfl,r2,b2⟩,⟨_,_,rfl,r3,b3⟩⟩,⟨Bo w2,Bo w3,Bo w4,qm w5,qm w6,k7,q0,q1,q2,q3⟩⟩,⟨_,_,rfl,k0⟩⟩
  match i,hi with
  |0,_=>exact e0
  |1,_=>exact e1
  |2,_=>exact e2
  |3,_=>exact e3
  |4,_=>exact e4
  |5,_=>exact e5
  |6,_=>exact e6
  |i+7,hi=>
   show _=some (if i<68 then oM (kF z7) i else if i=68 then _ else if i=69 then _ else if i=70 then _ else _)
   by_cases h1:i<68
   · rw [if_pos h1,Nat.add_comm];exact e7' i h1
   rw [if_neg h1];by_cases h2:i=68
   · subst h2;exact e8'
   rw [if_neg h2];by_cases h3:i=69
   · subst h3;exact e9'
   rw [if_neg h3];by_cases h4:i=70
   · subst h4;exact akY
   obtain rfl:i=71:=by omega
   exact akZ
theorem Lr{v:Value}{d:DataW H}{ps:List MemPlace}(hv:Value.okWide Tryz.prog W r base 31 v)(h:DataW.Trod enc Tryz.prog W 0 (fun _=>true) true 31 v d ps):
   ∃ (x:Cf) (a c:Value),v= .agg (vec 3 (eX x.ver a c))/\ uw W W.heap.size x a c/\ Aj x:=by
 have hs:=Tryz.underlying31;obtain⟨cs,rfl,hsz⟩:=okWide_struct hs hv;have hC:Tryz.prog.cellsOf 31=3:=(by kernel_rfl);rw [hC]at hsz;obtain⟨fuel,hf⟩:=h;have hcs:(Value.agg cs).cells.toList=cs.toList:=rfl;rw [hcs]at hf;obtain⟨y0,y1,y2,n,-,-,h0,h1,h2⟩:=trod_struct3 hs hf;have hL:cs.toList.length=3:=(by simpa using hsz);obtain⟨z0,e0,w0⟩:=iM (o:=0) Tryz.underlying27 SY (by omega) h0;have h1':DataW.trod enc Tryz.prog W 0 (fun _=>true) true n 28 ((cs.toList.drop 1).take (Tryz.prog.cellsOf 28))=some y1:=h1;have h2':DataW.trod enc Tryz.prog W 0 (fun _=>true) true n 29 ((cs.toList.drop 2).take (Tryz.prog.cellsOf 29))=some y2:=h2;rw [akW,ng (by omega)]at h1';rw [akX,ng (by omega)]at h2';obtain⟨A,c,ys,e1,b1,r1,q1,-⟩:=sS Tryz.underlying28 (by kernel_rfl) (by decide) (fun hl h=>Oh hl h) h1';obtain⟨A2,c2,l2,e2,b2,r2,q2,-⟩:=sS Tryz.underlying29 (by kernel_rfl) (by decide) (fun hl h=>YH hl h) h2';refine⟨⟨z0,ys.map GV.g,l2⟩,.slice A ys.length c,.slice A2 l2.length c2, ?_,⟨⟨⟨A,c,ys,by simp,rfl,⟨r1,fun y hy=>(q1 y hy).1.1⟩,by simpa using b1⟩,⟨A2,c2,rfl,r2,b2⟩⟩,⟨A,c,ys,by simp,rfl,⟨r1,fun y hy=>(q1 y hy).1.1⟩,fun y hy=>(q1 y hy).2⟩⟩,⟨Bo w0,fun g hg=> ?_,q2⟩⟩
 · congr 1
   obtain⟨L⟩:=cs
   match L,hsz with
   | [c0,c1,c2'],_=>
    simp at e0 e1 e2;subst e0 e1 e2
    rfl
 · obtain⟨y,hy,rfl⟩:=List.mem_map.1 hg
   exact(q1 y hy).1.2
end
section
variable {H : Type} {enc : TypeId × Value -> H} {W : World} {r : Reach} {base : Nat} {sp : Nat -> Bool} {held : Bool} {fuel : Nat}
end
abbrev Sp:=Nat × Nat
def TT:Nat:=18446744073709551616
def fit(x:Sp):Prop:=x.1<18446744073709551616/\ x.2<18446744073709551616
def good(x:Sp):Bool:=decide (0<x.2)&&decide (x.1+x.2<=18446744073709551616)
def last(x:Sp):Nat:=if good x then x.1+x.2-1 else 0
def has(x:Sp)(p:Nat):Bool:=good x&&(decide (x.1<=p)&&decide (p<x.1+x.2))
def overlap(x y:Sp):Bool:=good x&&(good y&&(decide (x.1<y.1+y.2)&&decide (y.1<x.1+x.2)))
def within(x y:Sp):Bool:=good x&&(good y&&(decide (y.1<=x.1)&&decide (x.1+x.2<=y.1+y.2)))
def eG(x:Sp):Bool:=good x&&(decide (x.1% 4096=0)&&decide (x.2% 4096=0))
theorem iq(x:Sp):good x=true↔0<x.2/\ x.1+x.2<=18446744073709551616:=by simp [good]
theorem uJ(x:Sp)(p:Nat):has x p=true↔good x=true/\ x.1<=p/\ p<x.1+x.2:=by simp [has]
theorem jd(x y:Sp):overlap x y=true↔good x=true/\ good y=true/\ x.1<y.1+y.2/\ y.1<x.1+x.2:=by simp [overlap]
theorem lX{x:Sp}(h:good x=true):last x+1=x.1+x.2:=by
 unfold last;rw [if_pos h];have:=(iq x).1 h;omega
theorem Oi{x:Sp}(h:good x=false):last x=0:=by unfold last;rw [h];rfl
def Qw:Nat->List Sp->Prop
 |_,[]=>True
 |lo,x::r=>lo<=x.1/\ 0<x.2/\ x.1+x.2<=TT/\ Qw (x.1+x.2+1) r
def Mem(l:List Sp)(p:Nat):Prop:=∃x∈l,x.1<=p/\ p<x.1+x.2
theorem Qw.mono{a b:Nat}(h:a<=b):∀ {l:List Sp},Qw b l->Qw a l
 | [],_=>trivial
 |_::_,⟨h1,h2,h3,h4⟩=>⟨aA h h1,h2,h3,h4⟩
theorem Qw.lo{a p:Nat}:∀ {l:List Sp},Qw a l->Mem l p->a<=p
 | [],_,⟨_,hx,_⟩=>by cases hx
 |y::r,⟨h1,h2,h3,h4⟩,⟨x,hx,hp1,hp2⟩=>by
  rcases List.mem_cons.1 hx with rfl|hx
  · omega
  · have:=Qw.lo h4 ⟨x,hx,hp1,hp2⟩;omega
theorem mem_cons{x:Sp}{r:List Sp}{p:Nat}:Mem (x::r) p↔(x.1<=p/\ p<x.1+x.2)∨Mem r p:=by
 constructor
 · rintro⟨y,hy,h⟩
   rcases List.mem_cons.1 hy with rfl|hy
   · exact .inl h
   · exact .inr ⟨y,hy,h⟩
 · rintro(h|⟨y,hy,h⟩)
   · exact⟨x,by simp,h⟩
   · exact⟨y,by simp [hy],h⟩
def half:Nat:=9223372036854775808
def split(l:List Sp):List Sp:=l.flatMap fun x=>if x=(0,TT)then [(0,half),(half,half)]else [x]
def Tc:Nat->List Sp->Prop
 |_,[]=>True
 |lo,x::r=>lo<=x.1/\ x.1<=x.2/\ x.2<TT/\ Tc (x.2+2) r
theorem Tc.mono{a b:Nat}(h:a<=b):∀ {l:List Sp},Tc b l->Tc a l
 | [],_=>trivial
 |_::_,⟨h1,h2,h3,h4⟩=>⟨aA h h1,h2,h3,h4⟩
structure Mp where
 fZ:Int
 pa:Int
 size:Int
 perm:Int
 kind:Int
def Gx(z:Int):Prop:=0<=z/\ z<18446744073709551616
structure Cj(x:Mp):Prop where
 fZ:Gx x.fZ
 pa:Gx x.pa
 size:Gx x.size
def lC(x:Mp):Sp:=(x.fZ.toNat,x.size.toNat)
def paS(x:Mp):Sp:=(x.pa.toNat,x.size.toNat)
def V6(x:Wi):Mp:=⟨x.fZ,x.pa,x.size,x.perm,0⟩
def Um(x:De):Mp:=⟨x.fZ,x.pa,x.size,3,1⟩
def uO(c:Ch)(e:En):Mp:=⟨e.fZ,c.pa,c.size,e.perm,0⟩
def sK(g:Int)(c:Ch):List Mp:=(if c.a.bK=g then [uO c c.a]else [])++(if c.b.bK=g then [uO c c.b]else [])
def kY(t:Gs)(dH:List Ch)(g:Int):List Mp:=t.wins.map V6++(t.dG.map Um++dH.flatMap (sK g))
def nR(c:Cf)(g:Int):Option Gs:=if g<0 then none else c.gs[g.toNat]?
def iy(l:List Mp)(m:Mp):List Mp:=l.takeWhile (fun x=>decide (x.fZ<=m.fZ))++m::l.dropWhile (fun x=>decide (x.fZ<=m.fZ))
def pG(l:List Mp):List Mp:=l.foldl iy []
def JO(x:Mp):Bool:=good (lC x)&&good (paS x)
def Gy(l:List Mp)(i:Nat):Bool:=match l[i]? with
 |none=>true
 |some x=>JO x&&(l.take i).all fun y=> !overlap (lC x) (lC y)
def Ej(l:List Mp):Bool:=(List.range l.length).all (Gy l)
def oh(c:Cf)(g:Int):Except Nat (List Mp):=match nR c g with
 |none=> .error 1
 |some t=>if Ej (pG (kY t c.dH g))=true then .ok (pG (kY t c.dH g))else .error 160
def uK(b s:Int):Bool:=eG (b.toNat,s.toNat)&&decide (b.toNat+s.toNat<=1099511627776)
def aci(t:Gs):List Sp:=t.wins.map (fun x=>(x.pa.toNat,x.size.toNat))++t.dG.map (fun x=>(x.pa.toNat,x.size.toNat))
theorem vI{f:Nat->Bool}{n:Nat}:(List.range n).all f=true↔∀i,i<n->f i=true:=by simp [List.all_eq_true]
theorem Gt{f:Nat->Bool}{k:Nat}(h:(List.range k).all f=true)(hk:f k=true):(List.range (k+1)).all f=true:=by
 rw [vI]at h⊢;intro i hi;by_cases e:i=k
 · rw [e];exact hk
 · exact h i (by omega)
theorem Jm{f:Nat->Bool}{n k:Nat}(hn:k<n)(hk:f k=false):(List.range n).all f=false:=by
 rw [<-Bool.not_eq_true,vI];intro h;have:=h k hn;rw [hk]at this;cases this
theorem yB{l:List Mp}{i:Nat}(h:i<l.length):Gy l i=(JO l[i]&&(l.take i).all fun y=> !overlap (lC l[i]) (lC y)):=by unfold Gy;rw [aF h]
theorem sJ(x y:Sp):overlap x y=overlap y x:=by
 rw [Bool.eq_iff_iff,jd,jd]
 constructor
 · rintro⟨a,b,c,d⟩;exact⟨b,a,d,c⟩
 · rintro⟨a,b,c,d⟩;exact⟨b,a,d,c⟩
theorem yx{l:List Mp}:Ej l=true↔(∀x∈l,JO x=true)/\ l.Pairwise fun x y=>overlap (lC x) (lC y)=false:=by
 unfold Ej;rw [vI]
 constructor
 · intro h
   refine⟨fun x hx=> ?_, ?_⟩
   · obtain⟨i,hi,rfl⟩:=List.mem_iff_getElem.1 hx
     have:=h i hi;rw [yB hi,Bool.and_eq_true]at this;exact this.1
   · rw [List.pairwise_iff_getElem]
     intro i j hi hj hij;have:=h j hj;rw [yB hj,Bool.and_eq_true,List.all_eq_true]at this;have h2:=this.2 l[i] (by rw [List.mem_iff_getElem];exact⟨i,by rw [List.length_take];omega,by rw [List.getElem_take]⟩);rw [sJ]
     simpa using h2
 · rintro⟨h1,h2⟩ i hi
   rw [yB hi,Bool.and_eq_true,List.all_eq_true];refine⟨h1 _ (ay hi),fun y hy=> ?_⟩;obtain⟨j,hj,rfl⟩:=List.mem_iff_getElem.1 hy;rw [List.length_take]at hj;rw [List.getElem_take];have:=List.pairwise_iff_getElem.1 h2 j i (by omega) hi (by omega);rw [sJ,this];rfl
theorem Jt(l:List Mp)(m:Mp):(iy l m).Perm (m::l):=by
 unfold iy;have h:=List.takeWhile_append_dropWhile (p:=fun x:Mp=>decide (x.fZ<=m.fZ)) (l:=l);exact(List.perm_middle).trans (List.Perm.cons m (by rw [h]))
theorem Dw:∀ (l k:List Mp),(l.foldl iy k).Perm (k++l)
 | [],k=>by simp
 |m::l,k=>by
  rw [List.foldl_cons];refine(Dw l (iy k m)).trans ?_;refine((Jt k m).append_right l).trans ?_;exact(List.perm_middle).symm
theorem o8(l:List Mp):(pG l).Perm l:=by
 have:=Dw l [];rw [List.nil_append]at this;exact this
def Sorted(l:List Mp):Prop:=l.Pairwise fun x y=>x.fZ<=y.fZ
theorem xW{α:Type}(p:α->Bool):∀ (l:List α) (x:α) (r:List α),l.dropWhile p=x::r->p x=false
 | [],_,_,h=>by simp at h
 |y::l,x,r,h=>by
  rw [List.dropWhile_cons]at h
  split at h
  · exact xW p l x r h
  · injection h with h1 _
    subst h1
    simpa using (by assumption:¬p y=true)
theorem Oj{l:List Mp}(h:Sorted l)(m:Mp):Sorted (iy l m):=by
 unfold iy Sorted;have e:=List.takeWhile_append_dropWhile (p:=fun x:Mp=>decide (x.fZ<=m.fZ)) (l:=l);have hs:(l.takeWhile (fun x=>decide (x.fZ<=m.fZ))++l.dropWhile (fun x=>decide (x.fZ<=m.fZ))).Pairwise fun x y:Mp=>x.fZ<=y.fZ:=(by rw [e];exact h);rw [List.pairwise_append]at hs⊢;obtain⟨s1,s2,s3⟩:=hs;have hT:∀x∈l.takeWhile (fun x=>decide (x.fZ<=m.fZ)),x.fZ<=m.fZ:=fun x hx=>by
   have:=List.all_eq_true.1 (List.all_takeWhile (p:=fun x:Mp=>decide (x.fZ<=m.fZ)) (l:=l)) x hx
   simpa using this
 have hD:∀y∈l.dropWhile (fun x=>decide (x.fZ<=m.fZ)),m.fZ<=y.fZ:=fun y hy=>by
   cases hd:l.dropWhile (fun x=>decide (x.fZ<=m.fZ))with
   |nil=>rw [hd]at hy;cases hy
   |cons z r=>
    have hz:=xW _ _ _ _ hd;have hz:¬z.fZ<=m.fZ:=(by simpa using hz);rw [hd]at hy s2;rcases List.mem_cons.1 hy with rfl|hy
    · omega
    · have:=(List.pairwise_cons.1 s2).1 y hy
      omega
 refine⟨s1,List.pairwise_cons.2 ⟨hD,s2⟩,fun x hx y hy=> ?_⟩;rcases List.mem_cons.1 hy with rfl|hy
 · exact hT x hx
 · exact s3 x hx y hy
theorem D8:∀ (l k:List Mp),Sorted k->Sorted (l.foldl iy k)
 | [],_,h=>h
 |m::l,k,h=>D8 l (iy k m) (Oj h m)
theorem Kv(l:List Mp):Sorted (pG l):=D8 l [] List.Pairwise.nil
theorem xR{l k:List Mp}(h:l.Perm k):Ej l=Ej k:=by
 rw [Bool.eq_iff_iff,yx,yx];have hp:=h.pairwise_iff (R:=fun x y=>overlap (lC x) (lC y)=false) (fun {x y} e=>by rw [sJ];exact e)
 constructor
 · rintro⟨h1,h2⟩;exact⟨fun x hx=>h1 x (h.mem_iff.2 hx),hp.1 h2⟩
 · rintro⟨h1,h2⟩;exact⟨fun x hx=>h1 x (h.mem_iff.1 hx),hp.2 h2⟩
theorem SL{x y:Mp}(bx:Cj x)(bz:Cj y)(hx:JO x=true)(hy:JO y=true)(ho:overlap (lC x) (lC y)=false)(hle:x.fZ<=y.fZ):x.fZ+x.size<=y.fZ/\ 0<x.size:=by
 unfold JO at hx hy;rw [Bool.and_eq_true]at hx hy;have g1:=(iq _).1 hx.1;have g2:=(iq _).1 hy.1;have:¬overlap (lC x) (lC y)=true:=(by rw [ho];decide);rw [jd]at this;have b1:=bx.fZ.1;have b2:=bx.size.1;have b3:=bz.fZ.1;have b4:=bz.size.1;unfold lC at*;simp only at*
 constructor
 · by_cases hc:x.fZ+x.size<=y.fZ
   · exact hc
   · exact absurd ⟨hx.1,hy.1,by omega,by omega⟩ this
 · omega
theorem Ju{l:List Mp}(hb:∀x∈l,Cj x)(hs:Sorted l)(ho:Ej l=true):l.Pairwise fun x y=>x.fZ+x.size<=y.fZ/\ x.fZ<y.fZ:=by
 obtain⟨h1,h2⟩:=yx.1 ho;rw [List.pairwise_iff_getElem];intro i j hi hj hij;have a1:=List.pairwise_iff_getElem.1 hs i j hi hj hij;have a2:=List.pairwise_iff_getElem.1 h2 i j hi hj hij;have:=SL (hb _ (ay hi)) (hb _ (ay hj)) (h1 _ (ay hi)) (h1 _ (ay hj)) a2 a1;omega
theorem once{l:List Mp}(ho:Ej l=true)(p:Nat):(l.filter fun x=>has (lC x) p).length<=1:=by
 obtain⟨-,h2⟩:=yx.1 ho;have h3:=(h2.filter fun x=>has (lC x) p);have hm:∀x∈l.filter (fun x=>has (lC x) p),has (lC x) p=true:=fun x hx=>(List.mem_filter.1 hx).2
 match hf:l.filter (fun x=>has (lC x) p)with
 | []=>simp
 | [_]=>simp
 |x::y::r=>
  exfalso
  rw [hf]at h3 hm;have ho2:=(List.pairwise_cons.1 h3).1 y (by simp);have k1:=(uJ _ _).1 (hm x (by simp));have k2:=(uJ _ _).1 (hm y (by simp));have:overlap (lC x) (lC y)=true:=(jd _ _).2 ⟨k1.1,k2.1,by omega,by omega⟩;rw [ho2]at this;cases this
theorem Td:∀ {l k:List Mp},l.Perm k->l.Pairwise (fun x y=>x.fZ<y.fZ)->k.Pairwise (fun x y=>x.fZ<y.fZ)->l=k
 | [],k,h,_,_=>h.nil_eq
 |x::l,[],h,_,_=>by have:=h.length_eq;simp at this
 |x::l,y::k,h,h1,h2=>by
  have hx:x∈y::k:=h.mem_iff.1 (by simp);have hy:y∈x::l:=h.mem_iff.2 (by simp);have e:x=y:=by
   rcases List.mem_cons.1 hx with e|hx
   · exact e
   rcases List.mem_cons.1 hy with e|hy
   · exact e.symm
   have a1:=(List.pairwise_cons.1 h2).1 x hx;have a2:=(List.pairwise_cons.1 h1).1 y hy;omega
  subst e;rw [Td h.cons_inv (List.pairwise_cons.1 h1).2 (List.pairwise_cons.1 h2).2]
theorem NY{l k:List Mp}(hb:∀x∈l,Cj x)(hp:k.Perm l)(hs:Sorted k)(ho:Ej l=true):k=pG l:=by
 have hpk:k.Perm (pG l):=hp.trans (o8 l).symm;have o1:Ej k=true:=(by rw [xR hp];exact ho);have o2:Ej (pG l)=true:=(by rw [xR (o8 l)];exact ho);exact Td hpk ((Ju (fun x hx=>hb x (hp.mem_iff.1 hx)) hs o1).imp fun h=>h.2) ((Ju (fun x hx=>hb x ((o8 l).mem_iff.1 hx)) (Kv l) o2).imp fun h=>h.2)
theorem abb(g:Int)(c:Ch):(sK g c).length=(if c.a.bK=g then 1 else 0)+(if c.b.bK=g then 1 else 0):=by
 unfold sK;by_cases h1:c.a.bK=g<;>by_cases h2:c.b.bK=g<;>simp [h1,h2]
open Go.RowKit
abbrev spv(x:Sp):Value:= .agg #[.int .u64 (x.1:Int),.int .u64 (x.2:Int)]
abbrev Df(a b:Nat):Obj:= .cells #[.int .u64 (a:Int),.int .u64 (b:Int)] 24
theorem yC{b:Nat}(h:0<b)(h2:b<18446744073709551616):IntKind.u64.wrap ((b:Int)-1)=(b:Int)-1:=by simp [IntKind.wrap,IntKind.bits,IntKind.signed];omega
theorem YI{a:Nat}(h:a<18446744073709551616):IntKind.u64.wrap (18446744073709551615-(a:Int))=18446744073709551615-(a:Int):=by simp [IntKind.wrap,IntKind.bits,IntKind.signed];omega
theorem lW(a b:Nat)(hx:fit (a,b))(w:World):
   Calls Tryz.prog 106 #[.agg #[.int .u64 (a:Int),.int .u64 (b:Int)]] w fun e w'=>e= .returned (.bool (good (a,b)))/\ w'=w.alloc (Df a b):=by
 have Hx:=ah hx;obtain⟨h1,h2⟩:=hx;simp only at h1 h2;by_cases h:0<b
 · have h':(0:Int)<b:=by omega
   have e1:=yC h h2;have e2:=YI h1;by_cases h3:(b:Int)-1<=18446744073709551615-a
   · have e3:good (a,b)=true:=(iq _).2 ⟨h,by simp only;omega⟩
     rw [e3];clear h h1 h2;go_enter Tryz.func106,Tryz.ntmps106;go_wp2
     go_ret;exact⟨rfl,rfl⟩
   · have e3:good (a,b)=false:=by rw [<-Bool.not_eq_true,iq];simp only;omega
     rw [e3];clear h h1 h2;go_enter Tryz.func106,Tryz.ntmps106;go_wp2
     go_ret;exact⟨rfl,rfl⟩
 · obtain rfl:b=0:=by omega
   have e3:good (a,0)=false:=(by simp [good]);rw [e3];go_enter Tryz.func106,Tryz.ntmps106;go_wp2
   go_ret;exact⟨rfl,rfl⟩
theorem last_any(a b:Nat)(hx:fit (a,b))(w:World):
   Calls Tryz.prog 105 #[.agg #[.int .u64 (a:Int),.int .u64 (b:Int)]] w fun e w'=>e= .returned (.int .u64 (last (a,b):Nat))/\ w'=(w.alloc (Df a b)).alloc (Df a b):=by
 have Hx:=ah hx;obtain⟨h1,h2⟩:=hx;simp only at h1 h2;by_cases h:good (a,b)=true
 · have hg:=(iq _).1 h
   have hl:=lX h;simp only at hg hl;have e1:=yC hg.1 h2;have e2:IntKind.u64.wrap ((a:Int)+((b:Int)-1))=(last (a,b):Nat):=(by simp [IntKind.wrap,IntKind.bits,IntKind.signed];omega);clear h1 h2 hg hl;go_enter Tryz.func105,Tryz.ntmps105;go_wp2_with(go_at_call 106;refine(lW a b Hx.out _).mono ?_;rintro e w1 ⟨rfl,rfl⟩)
   go_ret;exact⟨rfl,rfl⟩
 · have h':good (a,b)=false:=by simpa using h
   have e2:last (a,b)=0:=Oi h';rw [e2];clear h h1 h2;go_enter Tryz.func105,Tryz.ntmps105;go_wp2_with(go_at_call 106;refine(lW a b Hx.out _).mono ?_;rintro e w1 ⟨rfl,rfl⟩)
   go_ret;exact⟨rfl,rfl⟩
theorem lZ(a b:Nat)(hx:fit (a,b))(w:World):
   Calls Tryz.prog 33 #[.agg #[.int .u64 (a:Int),.int .u64 (b:Int)]] w fun e w'=>e= .returned (.bool (good (a,b)))/\ w'=w.alloc (Df a b):=by
 obtain⟨h1,h2⟩:=hx;simp only at h1 h2;by_cases h:0<b
 · have h':(0:Int)<b:=by omega
   have e1:=yC h h2;have e2:IntKind.u64.wrap (18446744073709551615-((b:Int)-1))=18446744073709551615-((b:Int)-1):=(by simp [IntKind.wrap,IntKind.bits,IntKind.signed];omega);by_cases h3:(a:Int)<=18446744073709551615-((b:Int)-1)
   · have e3:good (a,b)=true:=(iq _).2 ⟨h,by simp only;omega⟩
     rw [e3];clear h h1 h2;go_enter Tryz.func33,Tryz.ntmps33;go_wp2
     go_ret;exact⟨rfl,rfl⟩
   · have e3:good (a,b)=false:=by rw [<-Bool.not_eq_true,iq];simp only;omega
     rw [e3];clear h h1 h2;go_enter Tryz.func33,Tryz.ntmps33;go_wp2
     go_ret;exact⟨rfl,rfl⟩
 · obtain rfl:b=0:=by omega
   have e3:good (a,0)=false:=(by simp [good]);rw [e3];go_enter Tryz.func33,Tryz.ntmps33;go_wp2
   go_ret;exact⟨rfl,rfl⟩
theorem Vr(a b:Nat)(hx:fit (a,b))(w:World):
   Calls Tryz.prog 58 #[.agg #[.int .u64 (a:Int),.int .u64 (b:Int)]] w fun e w'=>e= .returned (.int .u64 (last (a,b):Nat))/\ w'=(w.alloc (Df a b)).alloc (Df a b):=by
 have Hx:=ah hx;obtain⟨h1,h2⟩:=hx;simp only at h1 h2;by_cases h:good (a,b)=true
 · have hg:=(iq _).1 h
   have hl:=lX h;simp only at hg hl;have e1:=yC hg.1 h2;have e2:IntKind.u64.wrap ((a:Int)+((b:Int)-1))=(last (a,b):Nat):=(by simp [IntKind.wrap,IntKind.bits,IntKind.signed];omega);clear h1 h2 hg hl;go_enter Tryz.func58,Tryz.ntmps58;go_wp2_with(go_at_call 33;refine(lZ a b Hx.out _).mono ?_;rintro e w1 ⟨rfl,rfl⟩)
   go_ret;exact⟨rfl,rfl⟩
 · have h':good (a,b)=false:=by simpa using h
   have e2:last (a,b)=0:=Oi h';rw [e2];clear h h1 h2;go_enter Tryz.func58,Tryz.ntmps58;go_wp2_with(go_at_call 33;refine(lZ a b Hx.out _).mono ?_;rintro e w1 ⟨rfl,rfl⟩)
   go_ret;exact⟨rfl,rfl⟩
def Laid(w w':World):Prop:=∃os:List Obj,w'=os.foldl World.alloc w
theorem Laid.below{w w':World}(h:Laid w w'):Below w.heap.size w w':=by
 obtain⟨os,rfl⟩:=h;have:∀ (os:List Obj) (a:World),Below w.heap.size w a->Below w.heap.size w (os.foldl World.alloc a):=by
  intro os
  induction os with
  |nil=>intro a h;exact h
  |cons o os ih=>intro a h;exact ih _ (h.alloc h.size o)
 exact this os w (aC _ _)
theorem abd(a b p:Nat)(hx:fit (a,b))(w:World):
   Calls Tryz.prog 84 #[.agg #[.int .u64 (a:Int),.int .u64 (b:Int)],.int .u64 (p:Int)] w fun e w'=>e= .returned (.bool (has (a,b) p))/\ Below w.heap.size w w':=by
 have Hx:=ah hx;by_cases h:good (a,b)=true
 · have hg:=(iq _).1 h
   have hl:=lX h;simp only at hg hl;by_cases h1:a<=p
   · by_cases h2:p<=last (a,b)
     · have e:has (a,b) p=true:=(uJ _ _).2 ⟨h,by simp only;omega,by simp only;omega⟩
       rw [e];clear hg hl;go_enter Tryz.func84,Tryz.ntmps84;go_wp2_with(first
        |(go_at_call 106;refine(lW a b Hx.out _).mono ?_;rintro e w1 ⟨rfl,rfl⟩)
        |(go_at_call 105;refine(last_any a b Hx.out _).mono ?_;rintro e w1 ⟨rfl,rfl⟩))
       go_ret;exact⟨rfl,Laid.below ⟨[_,_,_,_],rfl⟩⟩
     · have e:has (a,b) p=false:=by rw [<-Bool.not_eq_true,uJ];simp only;omega
       rw [e];clear hg hl;go_enter Tryz.func84,Tryz.ntmps84;go_wp2_with(first
        |(go_at_call 106;refine(lW a b Hx.out _).mono ?_;rintro e w1 ⟨rfl,rfl⟩)
        |(go_at_call 105;refine(last_any a b Hx.out _).mono ?_;rintro e w1 ⟨rfl,rfl⟩))
       go_ret;exact⟨rfl,Laid.below ⟨[_,_,_,_],rfl⟩⟩
   · have e:has (a,b) p=false:=by rw [<-Bool.not_eq_true,uJ];simp only;omega
     rw [e];clear hg hl;go_enter Tryz.func84,Tryz.ntmps84;go_wp2_with(go_at_call 106;refine(lW a b Hx.out _).mono ?_;rintro e w1 ⟨rfl,rfl⟩)
     go_ret;exact⟨rfl,Laid.below ⟨[_,_],rfl⟩⟩
 · have h':good (a,b)=false:=by simpa using h
   have e:has (a,b) p=false:=(by simp [has,h']);rw [e];go_enter Tryz.func84,Tryz.ntmps84;go_wp2_with(go_at_call 106;refine(lW a b Hx.out _).mono ?_;rintro e w1 ⟨rfl,rfl⟩)
   go_ret;exact⟨rfl,Laid.below ⟨[_,_],rfl⟩⟩
theorem YJ(a b p:Nat)(hx:fit (a,b))(hp:p<18446744073709551616)(w:World):
   Calls Tryz.prog 64 #[.agg #[.int .u64 (a:Int),.int .u64 (b:Int)],.int .u64 (p:Int)] w fun e w'=>e= .returned (.bool (has (a,b) p))/\ Below w.heap.size w w':=by
 have Hx:=ah hx;by_cases h:good (a,b)=true
 · have hg:=(iq _).1 h
   simp only at hg;by_cases h1:a<=p
   · have e1:IntKind.u64.wrap ((p:Int)-a)=(p-a:Nat):=by simp [IntKind.wrap,IntKind.bits,IntKind.signed];omega
     by_cases h2:p-a<b
     · have e:has (a,b) p=true:=(uJ _ _).2 ⟨h,by simp only;omega,by simp only;omega⟩
       rw [e];clear hg;go_enter Tryz.func64,Tryz.ntmps64;go_wp2_with(go_at_call 33;refine(lZ a b Hx.out _).mono ?_;rintro e w1 ⟨rfl,rfl⟩)
       go_ret;exact⟨rfl,Laid.below ⟨[_,_],rfl⟩⟩
     · have e:has (a,b) p=false:=by rw [<-Bool.not_eq_true,uJ];simp only;omega
       rw [e];clear hg;go_enter Tryz.func64,Tryz.ntmps64;go_wp2_with(go_at_call 33;refine(lZ a b Hx.out _).mono ?_;rintro e w1 ⟨rfl,rfl⟩)
       go_ret;exact⟨rfl,Laid.below ⟨[_,_],rfl⟩⟩
   · have e:has (a,b) p=false:=by rw [<-Bool.not_eq_true,uJ];simp only;omega
     rw [e];clear hg;go_enter Tryz.func64,Tryz.ntmps64;go_wp2_with(go_at_call 33;refine(lZ a b Hx.out _).mono ?_;rintro e w1 ⟨rfl,rfl⟩)
     go_ret;exact⟨rfl,Laid.below ⟨[_,_],rfl⟩⟩
 · have h':good (a,b)=false:=by simpa using h
   have e:has (a,b) p=false:=(by simp [has,h']);rw [e];go_enter Tryz.func64,Tryz.ntmps64;go_wp2_with(go_at_call 33;refine(lZ a b Hx.out _).mono ?_;rintro e w1 ⟨rfl,rfl⟩)
   go_ret;exact⟨rfl,Laid.below ⟨[_,_],rfl⟩⟩
theorem l7(a b:Nat)(hx:fit (a,b))(w:World):
  Calls Tryz.prog 106 #[.agg #[.int .u64 (a:Int),.int .u64 (b:Int)]] w fun e w'=>e= .returned (.bool (good (a,b)))/\ Below w.heap.size w w':=
 (lW a b hx w).mono fun _ _ ⟨h1,h2⟩=>⟨h1,Laid.below ⟨[_],h2⟩⟩
theorem um(a b:Nat)(hx:fit (a,b))(w:World):
  Calls Tryz.prog 105 #[.agg #[.int .u64 (a:Int),.int .u64 (b:Int)]] w fun e w'=>e= .returned (.int .u64 (last (a,b):Nat))/\ Below w.heap.size w w':=
 (last_any a b hx w).mono fun _ _ ⟨h1,h2⟩=>⟨h1,Laid.below ⟨[_,_],h2⟩⟩
theorem ig(a b:Nat)(hx:fit (a,b))(w:World):
  Calls Tryz.prog 33 #[.agg #[.int .u64 (a:Int),.int .u64 (b:Int)]] w fun e w'=>e= .returned (.bool (good (a,b)))/\ Below w.heap.size w w':=
 (lZ a b hx w).mono fun _ _ ⟨h1,h2⟩=>⟨h1,Laid.below ⟨[_],h2⟩⟩
theorem lY(a b:Nat)(hx:fit (a,b))(w:World):
  Calls Tryz.prog 58 #[.agg #[.int .u64 (a:Int),.int .u64 (b:Int)]] w fun e w'=>e= .returned (.int .u64 (last (a,b):Nat))/\ Below w.heap.size w w':=
 (Vr a b hx w).mono fun _ _ ⟨h1,h2⟩=>⟨h1,Laid.below ⟨[_,_],h2⟩⟩
theorem fV{w W W1:World}{p q r s:Addr}{x y z u:Value}(hd:Below W.heap.size W W1)
  (h:Below w.heap.size w W/\ W.cell? p=some x/\ W.cell? q=some y/\ W.cell? r=some z/\ W.cell? s=some u):
  Below w.heap.size w W1/\ W1.cell? p=some x/\ W1.cell? q=some y/\ W1.cell? r=some z/\ W1.cell? s=some u:=by
 obtain⟨h0,h1,h2,h3,h4⟩:=h;exact⟨h0.trans (hd.mono h0.size),(hd.cell (aG W p h1)).trans h1,(hd.cell (aG W q h2)).trans h2,(hd.cell (aG W r h3)).trans h3,(hd.cell (aG W s h4)).trans h4⟩
theorem fD(w:World)(a b c d:Nat)(W:World)(hW:W=((w.alloc (Df a b)).alloc (Df c d)).drew):
  Below w.heap.size w W/\ W.cell? ⟨w.heap.size,0,none⟩=some (.int .u64 (a:Int))/\ W.cell? ⟨w.heap.size,1,none⟩=some (.int .u64 (b:Int))/\
   W.cell? ⟨w.heap.size+1,0,none⟩=some (.int .u64 (c:Int))/\ W.cell? ⟨w.heap.size+1,1,none⟩=some (.int .u64 (d:Int)):=by
 subst hW;refine⟨(Laid.below ⟨[_,_],rfl⟩).drew, ?_, ?_, ?_, ?_⟩<;>simp
open Go.RowKit
theorem Bv(a b c d:Nat)(hx:fit (a,b))(hy:fit (c,d))(w:World):
   Calls Tryz.prog 31 #[.agg #[.int .u64 (a:Int),.int .u64 (b:Int)],.agg #[.int .u64 (c:Int),.int .u64 (d:Int)]] w fun e w'=>e= .returned (.bool (overlap (a,b) (c,d)))/\ Below w.heap.size w w':=by
 have Hx:=ah hx;have Hy:=ah hy;by_cases h:good (a,b)=true
 · by_cases k:good (c,d)=true
   · have E:=ah (show overlap (a,b) (c,d)=(decide (a<=last (c,d))&&decide (c<=last (a,b))) by
       have hl:=lX h;have kl:=lX k;have hg:=(iq _).1 h;have kg:=(iq _).1 k;simp only at hl kl hg kg;rw [Bool.eq_iff_iff];simp [overlap,h,k];omega)
     by_cases h1:a<=last (c,d)
     · by_cases h2:c<=last (a,b)
       · rw [show overlap (a,b) (c,d)=true from by first|(rw [E.out];simp [h1,h2])|(rw [E.out];simp [h1])|simp [overlap,h,k]|simp [overlap,h]]
         go_enter Tryz.func31,Tryz.ntmps31;go_wp2
         refine wp_region_held_drew (S:=fun W=>Below w.heap.size w W/\ W.cell? ⟨w.heap.size,0,none⟩=some (.int .u64 (a:Int))/\ W.cell? ⟨w.heap.size,1,none⟩=some (.int .u64 (b:Int))/\ W.cell? ⟨w.heap.size+1,0,none⟩=some (.int .u64 (c:Int))/\ W.cell? ⟨w.heap.size+1,1,none⟩=some (.int .u64 (d:Int))) (by kernel_rfl) (fD w a b c d _ rfl) (fun hS=> ?_);refine tA 0 ?_;refine oQ 1 fun K1 hK1=> ?_;go_simp;refine(ig a b Hx.out _).mono ?_;rintro e w1 ⟨rfl,hd⟩;refine hK1 _ _ (fV hd hS) (fun hS1=> ?_);clear hS hd hK1 K1;refine tA 2 ?_;refine tA 3 ?_;refine oQ 4 fun K4 hK4=> ?_;go_simp;refine(ig c d Hy.out _).mono ?_;rintro e w1 ⟨rfl,hd⟩;refine hK4 _ _ (fV hd hS1) (fun hS4=> ?_);clear hS1 hd hK4 K4;refine tA 5 ?_;refine tA 6 ?_;refine tA 7 ?_;refine tA 8 ?_;refine tA 9 ?_;refine oQ 10 fun K10 hK10=> ?_;go_simp;refine(lY c d Hy.out _).mono ?_;rintro e w1 ⟨rfl,hd⟩;refine hK10 _ _ (fV hd hS4) (fun eH=> ?_);clear hS4 hd hK10 K10;refine tA 11 ?_;refine tA 12 ?_;refine tA 13 ?_;refine tA 14 ?_;refine tA 15 ?_;refine tA 16 ?_;refine oQ 17 fun oW eu=> ?_;go_simp;refine(lY a b Hx.out _).mono ?_;rintro e w1 ⟨rfl,hd⟩;refine eu _ _ (fV hd eH) (fun eY=> ?_);clear eH hd eu oW;refine tA 18 ?_;refine tA 19 ?_;refine tA 20 ?_;refine wpAnyH_done (by kernel_rfl) ?_ _;go_wp2
         go_ret;exact⟨rfl,eY.1⟩
       · rw [show overlap (a,b) (c,d)=false from by first|(rw [E.out];simp [h1,h2])|(rw [E.out];simp [h1])|simp [overlap,h,k]|simp [overlap,h]]
         go_enter Tryz.func31,Tryz.ntmps31;go_wp2
         refine wp_region_held_drew (S:=fun W=>Below w.heap.size w W/\ W.cell? ⟨w.heap.size,0,none⟩=some (.int .u64 (a:Int))/\ W.cell? ⟨w.heap.size,1,none⟩=some (.int .u64 (b:Int))/\ W.cell? ⟨w.heap.size+1,0,none⟩=some (.int .u64 (c:Int))/\ W.cell? ⟨w.heap.size+1,1,none⟩=some (.int .u64 (d:Int))) (by kernel_rfl) (fD w a b c d _ rfl) (fun hS=> ?_);refine tA 0 ?_;refine oQ 1 fun K1 hK1=> ?_;go_simp;refine(ig a b Hx.out _).mono ?_;rintro e w1 ⟨rfl,hd⟩;refine hK1 _ _ (fV hd hS) (fun hS1=> ?_);clear hS hd hK1 K1;refine tA 2 ?_;refine tA 3 ?_;refine oQ 4 fun K4 hK4=> ?_;go_simp;refine(ig c d Hy.out _).mono ?_;rintro e w1 ⟨rfl,hd⟩;refine hK4 _ _ (fV hd hS1) (fun hS4=> ?_);clear hS1 hd hK4 K4;refine tA 5 ?_;refine tA 6 ?_;refine tA 7 ?_;refine tA 8 ?_;refine tA 9 ?_;refine oQ 10 fun K10 hK10=> ?_;go_simp;refine(lY c d Hy.out _).mono ?_;rintro e w1 ⟨rfl,hd⟩;refine hK10 _ _ (fV hd hS4) (fun eH=> ?_);clear hS4 hd hK10 K10;refine tA 11 ?_;refine tA 12 ?_;refine tA 13 ?_;refine tA 14 ?_;refine tA 15 ?_;refine tA 16 ?_;refine oQ 17 fun oW eu=> ?_;go_simp;refine(lY a b Hx.out _).mono ?_;rintro e w1 ⟨rfl,hd⟩;refine eu _ _ (fV hd eH) (fun eY=> ?_);clear eH hd eu oW;refine tA 18 ?_;refine tA 19 ?_;refine tA 20 ?_;refine wpAnyH_done (by kernel_rfl) ?_ _;go_wp2
         go_ret;exact⟨rfl,eY.1⟩
     · rw [show overlap (a,b) (c,d)=false from by first|(rw [E.out];simp [h1,h2])|(rw [E.out];simp [h1])|simp [overlap,h,k]|simp [overlap,h]]
       go_enter Tryz.func31,Tryz.ntmps31;go_wp2
       refine wp_region_held_drew (S:=fun W=>Below w.heap.size w W/\ W.cell? ⟨w.heap.size,0,none⟩=some (.int .u64 (a:Int))/\ W.cell? ⟨w.heap.size,1,none⟩=some (.int .u64 (b:Int))/\ W.cell? ⟨w.heap.size+1,0,none⟩=some (.int .u64 (c:Int))/\ W.cell? ⟨w.heap.size+1,1,none⟩=some (.int .u64 (d:Int))) (by kernel_rfl) (fD w a b c d _ rfl) (fun hS=> ?_);refine tA 0 ?_;refine oQ 1 fun K1 hK1=> ?_;go_simp;refine(ig a b Hx.out _).mono ?_;rintro e w1 ⟨rfl,hd⟩;refine hK1 _ _ (fV hd hS) (fun hS1=> ?_);clear hS hd hK1 K1;refine tA 2 ?_;refine tA 3 ?_;refine oQ 4 fun K4 hK4=> ?_;go_simp;refine(ig c d Hy.out _).mono ?_;rintro e w1 ⟨rfl,hd⟩;refine hK4 _ _ (fV hd hS1) (fun hS4=> ?_);clear hS1 hd hK4 K4;refine tA 5 ?_;refine tA 6 ?_;refine tA 7 ?_;refine tA 8 ?_;refine tA 9 ?_;refine oQ 10 fun K10 hK10=> ?_;go_simp;refine(lY c d Hy.out _).mono ?_;rintro e w1 ⟨rfl,hd⟩;refine hK10 _ _ (fV hd hS4) (fun eH=> ?_);clear hS4 hd hK10 K10;refine tA 11 ?_;refine tA 12 ?_;refine tA 13 ?_;refine sQ 14 ?_;refine sQ 15 ?_;refine sQ 16 ?_;refine sQ 17 ?_;refine sQ 18 ?_;refine tA 19 ?_;refine tA 20 ?_;refine wpAnyH_done (by kernel_rfl) ?_ _;go_wp2
       go_ret;exact⟨rfl,eH.1⟩
   · rw [show overlap (a,b) (c,d)=false from by first|(rw [E.out];simp [h1,h2])|(rw [E.out];simp [h1])|simp [overlap,h,k]|simp [overlap,h]]
     go_enter Tryz.func31,Tryz.ntmps31;go_wp2
     refine wp_region_held_drew (S:=fun W=>Below w.heap.size w W/\ W.cell? ⟨w.heap.size,0,none⟩=some (.int .u64 (a:Int))/\ W.cell? ⟨w.heap.size,1,none⟩=some (.int .u64 (b:Int))/\ W.cell? ⟨w.heap.size+1,0,none⟩=some (.int .u64 (c:Int))/\ W.cell? ⟨w.heap.size+1,1,none⟩=some (.int .u64 (d:Int))) (by kernel_rfl) (fD w a b c d _ rfl) (fun hS=> ?_);refine tA 0 ?_;refine oQ 1 fun K1 hK1=> ?_;go_simp;refine(ig a b Hx.out _).mono ?_;rintro e w1 ⟨rfl,hd⟩;refine hK1 _ _ (fV hd hS) (fun hS1=> ?_);clear hS hd hK1 K1;refine tA 2 ?_;refine tA 3 ?_;refine oQ 4 fun K4 hK4=> ?_;go_simp;refine(ig c d Hy.out _).mono ?_;rintro e w1 ⟨rfl,hd⟩;refine hK4 _ _ (fV hd hS1) (fun hS4=> ?_);clear hS1 hd hK4 K4;refine tA 5 ?_;refine tA 6 ?_;refine sQ 7 ?_;refine sQ 8 ?_;refine sQ 9 ?_;refine sQ 10 ?_;refine sQ 11 ?_;refine tA 12 ?_;refine tA 13 ?_;refine sQ 14 ?_;refine sQ 15 ?_;refine sQ 16 ?_;refine sQ 17 ?_;refine sQ 18 ?_;refine tA 19 ?_;refine tA 20 ?_;refine wpAnyH_done (by kernel_rfl) ?_ _;go_wp2
     go_ret;exact⟨rfl,hS4.1⟩
 · rw [show overlap (a,b) (c,d)=false from by first|(rw [E.out];simp [h1,h2])|(rw [E.out];simp [h1])|simp [overlap,h,k]|simp [overlap,h]]
   go_enter Tryz.func31,Tryz.ntmps31;go_wp2
   refine wp_region_held_drew (S:=fun W=>Below w.heap.size w W/\ W.cell? ⟨w.heap.size,0,none⟩=some (.int .u64 (a:Int))/\ W.cell? ⟨w.heap.size,1,none⟩=some (.int .u64 (b:Int))/\ W.cell? ⟨w.heap.size+1,0,none⟩=some (.int .u64 (c:Int))/\ W.cell? ⟨w.heap.size+1,1,none⟩=some (.int .u64 (d:Int))) (by kernel_rfl) (fD w a b c d _ rfl) (fun hS=> ?_);refine tA 0 ?_;refine oQ 1 fun K1 hK1=> ?_;go_simp;refine(ig a b Hx.out _).mono ?_;rintro e w1 ⟨rfl,hd⟩;refine hK1 _ _ (fV hd hS) (fun hS1=> ?_);clear hS hd hK1 K1;refine tA 2 ?_;refine sQ 3 ?_;refine sQ 4 ?_;refine tA 5 ?_;refine tA 6 ?_;refine sQ 7 ?_;refine sQ 8 ?_;refine sQ 9 ?_;refine sQ 10 ?_;refine sQ 11 ?_;refine tA 12 ?_;refine tA 13 ?_;refine sQ 14 ?_;refine sQ 15 ?_;refine sQ 16 ?_;refine sQ 17 ?_;refine sQ 18 ?_;refine tA 19 ?_;refine tA 20 ?_;refine wpAnyH_done (by kernel_rfl) ?_ _;go_wp2
   go_ret;exact⟨rfl,hS1.1⟩
open Go.RowKit
def Row(w:World)(B:Nat)(A:Option Addr)(l:List Sp):Prop:=
 l≠ []->∃a,A=some a/\ a.block<B/\ ∀j (h:j<l.length),w.cell? (a.add (j*2))=some (.int .u64 (l[j].1:Int))/\ w.cell? (a.add (j*2+1))=some (.int .u64 (l[j].2:Int))
section
variable {w w' : World} {B B' : Nat} {A : Option Addr} {l : List Sp}
theorem Row.nil(w:World)(B:Nat)(A:Option Addr):Row w B A []:=fun h=>absurd rfl h
theorem Row.same(h:Row w B A l)(hk:∀p:Addr,p.block<B->w'.cell? p=w.cell? p):Row w' B A l:=fun hn=>by
 obtain⟨a,e,hb,hc⟩:=h hn;exact⟨a,e,hb,fun j hj=>⟨(hk _ (by rw [dA];exact hb)).trans (hc j hj).1,(hk _ (by rw [dA];exact hb)).trans (hc j hj).2⟩⟩
theorem Row.wide(h:Row w B A l)(hB:B<=B'):Row w B' A l:=fun hn=>by
 obtain⟨a,e,hb,hc⟩:=h hn;exact⟨a,e,aN hb hB,hc⟩
theorem Row.below(h:Row w B A l)(hb:Below B w w'):Row w' B A l:=h.same fun _ hp=>hb.cell hp
theorem Row.drew(h:Row w B A l):Row w.drew B A l:=h
theorem Row.alloc(h:Row w B A l)(hB:B<=w.heap.size)(o:Obj):Row (w.alloc o) B A l:=h.same fun p hp=>World.cell?_alloc_lt w o p (by omega)
theorem Row.at{k:Nat}(h:Row w B A l)(hk:k<l.length):∃a p,A=some a/\ a.add (k*2)=p/\ p.block<B/\ w.cell? p=some (.int .u64 (l[k].1:Int))/\ w.cell? ⟨p.block,p.off+1,none⟩=some (.int .u64 (l[k].2:Int)):=by
 obtain⟨a,e,hb,hc⟩:=h (fun hn=>by subst hn;cases hk);refine⟨a,_,e,rfl,by rw [dA];exact hb,(hc k hk).1, ?_⟩;have h2:=(hc k hk).2;rw [<-addr_add_add]at h2;exact h2
end
open Go.RowKit
theorem zT(a b:Nat)(hx:fit (a,b))(w:World):
   Calls Tryz.prog 57 #[.agg #[.int .u64 (a:Int),.int .u64 (b:Int)]] w fun e w'=>e= .returned (.bool (eG (a,b)))/\ Below w.heap.size w w':=by
 have Hx:=ah hx;by_cases h:good (a,b)=true
 · by_cases h1:a% 4096=0
   · have h1':(a:Int)% 4096=0:=by omega
     by_cases h2:b% 4096=0
     · have h2':(b:Int)% 4096=0:=by omega
       rw [show eG (a,b)=true from by simp [eG,h,h1,h2]];clear h1 h2;go_enter Tryz.func57,Tryz.ntmps57;go_wp2_with(go_at_call 33;refine(lZ a b Hx.out _).mono ?_;rintro e w1 ⟨rfl,rfl⟩)
       go_ret;exact⟨rfl,Laid.below ⟨[_,_],rfl⟩⟩
     · have h2':¬ (b:Int)% 4096=0:=by omega
       rw [show eG (a,b)=false from by simp [eG,h,h1,h2]];clear h1 h2;go_enter Tryz.func57,Tryz.ntmps57;go_wp2_with(go_at_call 33;refine(lZ a b Hx.out _).mono ?_;rintro e w1 ⟨rfl,rfl⟩)
       go_ret;exact⟨by simp [h2'],Laid.below ⟨[_,_],rfl⟩⟩
   · have h1':¬ (a:Int)% 4096=0:=by omega
     rw [show eG (a,b)=false from by simp [eG,h,h1]];clear h1;go_enter Tryz.func57,Tryz.ntmps57;go_wp2_with(go_at_call 33;refine(lZ a b Hx.out _).mono ?_;rintro e w1 ⟨rfl,rfl⟩)
     go_ret;exact⟨rfl,Laid.below ⟨[_,_],rfl⟩⟩
 · have h':good (a,b)=false:=by simpa using h
   rw [show eG (a,b)=false from by simp [eG,h']];go_enter Tryz.func57,Tryz.ntmps57;go_wp2_with(go_at_call 33;refine(lZ a b Hx.out _).mono ?_;rintro e w1 ⟨rfl,rfl⟩)
   go_ret;exact⟨rfl,Laid.below ⟨[_,_],rfl⟩⟩
theorem Jv(A:Option Addr)(c:Nat)(l:List Sp)(hl:l.length<=1000000)(hf:∀x∈l,fit x)(w:World)(hR:Row w w.heap.size A l):
  Calls Tryz.prog 68 #[.slice A l.length c] w fun e w'=>e= .returned (.bool (l.all eG))/\ Below w.heap.size w w':=by
 have Hl:=ah hl;have Hf:=ah hf;have HR:=ah hR;obtain⟨v,hv⟩:=aqx (l.all eG);rw [<-hv];have Hv:=ah hv;clear hl hf hR hv;go_enter Tryz.func68,Tryz.ntmps68;go_wp2
 go_loopw [7] (fun i W=>∃k:Nat,k<=l.length/\ i= .int .i64 k/\ (∀j (h:j<l.length),j<k->eG l[j]=true)/\ Below w.heap.size w W) (fun i _=>l.length-(intOf i).toNat)
 case atStart=>exact⟨0,aB _,rfl,fun _ _ h=>absurd h (Nat.not_lt_zero _),aC _ _⟩
 case round=>
  obtain⟨k,hk,rfl,hall,hbel⟩:=hrel;by_cases hlt:k<l.length
  · obtain⟨a,p,rfl,hp,hpb,hc1,hc2⟩:=(HR.out.below hbel).at hlt
    have hfit:=Hf.out _ (ay hlt);have hno:eG l[k]=false->l.all eG=false:=fun h=>by
      rw [Bool.eq_false_iff];intro h2;rw [List.all_eq_true]at h2;rw [h2 _ (ay hlt)]at h;cases h
    have hyes:eG l[k]=true->∀j (h:j<l.length),j<k+1->eG l[j]=true:=fun h j hj hjk=>by
      rcases Nat.lt_succ_iff_lt_or_eq.1 hjk with h1|rfl
      · exact hall j hj h1
      · exact h
    obtain⟨x,hx⟩:∃x,l[k]=x:=⟨_,rfl⟩;rw [hx]at hc1 hc2 hfit hno hyes;obtain⟨b,s⟩:=x;have Hx:=ah hfit;have HX:=ah hx;have lK:=ah hbel;have Hk:=ah hk;have hb3:k+1<=1000000:=(by have:=Hl.out;omega);have Hb:=ah (show Below w.heap.size w (wr.alloc (Df b s))from hbel.alloc hbel.size _);have Hno:=ah hno;have YK:=ah hyes;clear hfit hx hpb hbel hall hno hyes;by_cases h:good (b,s)=true
    · by_cases h1:b% 4096=0
      · have h1':(b:Int)% 4096=0:=by omega
        by_cases h2:s% 4096=0
        · have h2':(s:Int)% 4096=0:=by omega
          have Hy:=ah (YK.out (by simp [eG,h,h1,h2]));clear Hno YK h1 h2;go_wp2_with(go_at_call 106;refine(lW b s Hx.out _).mono ?_;rintro e w3 ⟨rfl,rfl⟩)
          go_roundw
          case rel=>exact⟨k+1,by omega,by go_num,Hy.out,Hb.out.trans ((Laid.below ⟨[_],rfl⟩).mono Hb.out.size)⟩
          case measure=>simp [intOf];omega
        · have h2':¬ (s:Int)% 4096=0:=by omega
          have Hv2:=ah (show v=false from Hv.out.trans (Hno.out (by simp [eG,h,h1,h2])));clear Hno YK;go_wp2_with(go_at_call 106;refine(lW b s Hx.out _).mono ?_;rintro e w3 ⟨rfl,rfl⟩)
          go_ret;exact⟨by rw [Hv2.out];rfl,Hb.out.trans ((Laid.below ⟨[_],rfl⟩).mono Hb.out.size)⟩
      · have h1':¬ (b:Int)% 4096=0:=by omega
        have Hv2:=ah (show v=false from Hv.out.trans (Hno.out (by simp [eG,h,h1])));clear Hno YK;go_wp2_with(go_at_call 106;refine(lW b s Hx.out _).mono ?_;rintro e w3 ⟨rfl,rfl⟩)
        go_ret;exact⟨by rw [Hv2.out];rfl,Hb.out.trans ((Laid.below ⟨[_],rfl⟩).mono Hb.out.size)⟩
    · have h':good (b,s)=false:=by simpa using h
      have Hv2:=ah (show v=false from Hv.out.trans (Hno.out (by simp [eG,h'])));clear Hno YK;go_wp2_with(go_at_call 106;refine(lW b s Hx.out _).mono ?_;rintro e w3 ⟨rfl,rfl⟩)
      go_ret;exact⟨by rw [Hv2.out];rfl,Hb.out.trans ((Laid.below ⟨[_],rfl⟩).mono Hb.out.size)⟩
  · obtain rfl:k=l.length:=by omega
    have hv:v=true:=Hv.out.trans (List.all_eq_true.2 fun x hx=>by
      obtain⟨j,hj,rfl⟩:=List.getElem_of_mem hx;exact hall j hj hj)
    have HV:=ah hv;have lK:=ah hbel;clear hbel hall hv;go_wp2
    go_ret;exact⟨by rw [HV.out];rfl,lK.out⟩
open Go.RowKit
def kK(x:Mp):Nat->Value
 |0=> .int .u64 x.fZ
 |1=> .int .u64 x.pa
 |2=> .int .u64 x.size
 |3=> .int .i64 x.perm
 |_=> .int .i64 x.kind
theorem Aq(x:Mp)(n:Nat):∀i,i<n->(kK x i).oneCell'=true:=by
 intro i _;unfold kK
 split<;>rfl
def zMp:Mp:=⟨0,0,0,0,0⟩
def bQ(x:Sp):Nat->Value
 |0=> .int .u64 (x.1:Int)
 |_=> .int .u64 (x.2:Int)
theorem kP(x:Sp)(n:Nat):∀i,i<n->(bQ x i).oneCell'=true:=by
 intro i _;unfold bQ
 split<;>rfl
theorem lN:(Tryz.prog.info? 87).map (·.size)=some 5:=by kernel_rfl
theorem bZ:(Tryz.prog.info? 24).map (·.size)=some 2:=by kernel_rfl
theorem zC(w:World):(zeroValue 87).run Tryz.prog w= .ok (.agg (vec 5 (kK zMp))) w:=
 (zero_of_info (P:=Tryz.prog) (t:=87) (v:= .agg (vec 5 (kK zMp))) (n:=5) (by kernel_rfl)).1 w
theorem jo(w:World):(zeroValue 24).run Tryz.prog w= .ok (.agg (vec 2 (bQ (0,0)))) w:=
 (zero_of_info (P:=Tryz.prog) (t:=24) (v:= .agg (vec 2 (bQ (0,0)))) (n:=2) (by kernel_rfl)).1 w
theorem dD{z:Int}(h:Gx z):((z.toNat:Nat):Int)=z/\ z.toNat<18446744073709551616:=by unfold Gx at h;omega
theorem Az{x:Mp}(h:Cj x):fit (lC x):=⟨(dD h.fZ).2,(dD h.size).2⟩
theorem Xf{x:Mp}(h:Cj x):fit (paS x):=⟨(dD h.pa).2,(dD h.size).2⟩
theorem YL(x:Sp)(hx:fit x)(w:World):Calls Tryz.prog 33 #[.agg (vec 2 (bQ x))] w (jc (good x) w):=ig x.1 x.2 hx w
theorem adU(x:Sp)(hx:fit x)(w:World):Calls Tryz.prog 58 #[.agg (vec 2 (bQ x))] w fun e w'=>e= .returned (.int .u64 (last x:Nat))/\ Below w.heap.size w w':=lY x.1 x.2 hx w
theorem Tf(x:Sp)(hx:fit x)(p:Nat)(hp:p<18446744073709551616)(w:World):Calls Tryz.prog 64 #[.agg (vec 2 (bQ x)),.int .u64 (p:Int)] w (jc (has x p) w):=YJ x.1 x.2 p hx hp w
theorem qM(x y:Sp)(hx:fit x)(hy:fit y)(w:World):Calls Tryz.prog 31 #[.agg (vec 2 (bQ x)),.agg (vec 2 (bQ y))] w (jc (overlap x y) w):=Bv x.1 x.2 y.1 y.2 hx hy w
theorem Kw(x:Sp)(hx:fit x)(w:World):Calls Tryz.prog 57 #[.agg (vec 2 (bQ x))] w (jc (eG x) w):=zT x.1 x.2 hx w
attribute [local go_sem ↓ high] jo
theorem vK(b s:Int)(hb:Gx b)(hs:Gx s)(w:World):Calls Tryz.prog 34 #[.int .u64 b,.int .u64 s] w (jc (uK b s) w):=by
 have hfit:fit (b.toNat,s.toNat):=⟨(dD hb).2,(dD hs).2⟩;have xw:=ah (fun W=>Kw (b.toNat,s.toNat) hfit W);have Sr:=ah (fun W=>adU (b.toNat,s.toNat) hfit W);have hpb:uK b s=(eG (b.toNat,s.toNat)&&decide ((last (b.toNat,s.toNat):Int)<1099511627776)):=by
   unfold uK;cases hp:eG (b.toNat,s.toNat)
   · rw [Bool.false_and,Bool.false_and]
   · have hg:good (b.toNat,s.toNat)=true:=by unfold eG at hp;rw [Bool.and_eq_true]at hp;exact hp.1
     have h1:=lX hg;have h2:=(iq _).1 hg;simp only [Bool.true_and]
     apply decide_eq_decide.2
     simp only at h1 h2;omega
 obtain⟨x,hx⟩:∃x:Sp,x=(b.toNat,s.toNat):=⟨_,rfl⟩;have e1:b=(x.1:Int):=(by rw [hx];exact(dD hb).1.symm);have e2:s=(x.2:Int):=(by rw [hx];exact(dD hs).1.symm);rw [<-hx]at xw Sr hpb;rw [hpb];obtain⟨p,hp⟩:=aqx (eG x);obtain⟨n,hn⟩:=aqx (last x);rw [<-hp]at xw⊢;rw [<-hn]at Sr⊢;clear hpb hp hn hfit hb hs hx;subst e1 e2;unfold jc at xw⊢;go_enter Tryz.func34,Tryz.ntmps34;go_upto_region 2 with(first
   |((with_reducible refine aqy (.build _ _) ?_);refine dh rfl 24 _ rfl (vec 2 (bQ x)) (by kernel_rfl) ?_)
   |((with_reducible refine aqy (.store _ _ _) ?_);refine bD rfl 24 _ _ rfl _ rfl _ rfl (aS (aU.new w _ _ _) (bQ x) bZ (kP _ _)) ?_))
 obtain⟨g,hg⟩:=aqx (w.heap.size);obtain⟨V,hV⟩:=aqx ((w.alloc (.cells (vec 2 (bQ (0,0))) 24)).setRow w.heap.size (vec 2 (bQ x)));have k0:aU V g 24 2 (bQ x):=(by rw [hV,hg];exact(aU.new w _ _ _).row _);have hB:Below w.heap.size w V:=(by rw [hV];exact bg ((aC _ _).alloc (aj _) _) (aj _) _);rw [<-hV, <-hg];have HK:=ah (ak k0 hB);clear hV hg k0 hB;cases p
 · go_wp2_with(first
     |((with_reducible refine aqz 9 (.load _ _) ?_);refine bM rfl 24 _ rfl g rfl _ (aQ HK.out.1 Tryz.underlying24 rfl bZ) ?_)
     |(go_at_call 57;refine(xw.out _).mono ?_;rintro e w1 ⟨rfl,hd⟩;have HD:=ah hd;clear hd))
   go_ret;exact⟨rfl,HK.out.2.trans (HD.out.mono HK.out.2.size)⟩
 · go_wp2_with(first
     |((with_reducible refine aqz 9 (.load _ _) ?_);refine bM rfl 24 _ rfl g rfl _ (aQ HK.out.1 Tryz.underlying24 rfl bZ) ?_)
     |(go_at_call 57;refine(xw.out _).mono ?_;rintro e w1 ⟨rfl,hd⟩;have HD:=ah hd;clear hd)
     |((with_reducible refine aqz 12 (.load _ _) ?_);refine kN (by kernel_rfl) (jP 24 _ rfl g 0 rfl _ (aQ (HK.out.1.under HD.out) Tryz.underlying24 rfl bZ)) ?_)
     |(go_at_call 58;refine(Sr.out _).mono ?_;rintro e w2 ⟨rfl,hd⟩;have HD:=ah (HD.out.trans (hd.mono HD.out.size));clear hd))
   go_ret;exact⟨by rw [Bool.true_and];rfl,HK.out.2.trans (HD.out.mono HK.out.2.size)⟩
open Go.RowKit
attribute [local go_sem ↓ high] zC jo
end Go.Proofs.YtkaipknkjocfiaaGreat
