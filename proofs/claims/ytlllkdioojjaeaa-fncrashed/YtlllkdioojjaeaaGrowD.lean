/-
 Rows that may be appended to: the call's own, or an empty list without room; what a disk's ops do to lists.
-/
import Derived.Test.YtlllkdioojjaeaaSyncI
import Derived.Test.YtlllkdioojjaeaaApps
namespace Go.Proofs.Ytlllkdioojjaeaa
open Go.RowKit
set_option linter.unusedVariables false
def GrowR (W:World) (base e size:Nat) (a:Option Addr) (n cap:Nat) (xs:List Value) (row:Option Nat):Prop:=(∃ ad,a=some ad∧n=0∧cap=0∧xs=[]∧row=none)∨(W.ownsRow base e size (.slice a n cap) n xs∧row=(Value.slice a n cap).ownBlock)
theorem GrowR.new {W:World} {base e size:Nat} {a:Option Addr} {n cap:Nat} {xs:List Value} {row:Option Nat} (h:GrowR W base e size a n cap xs row):NewR W base a xs:=by
 rcases h with ⟨ad,_,_,_,h,_⟩ | ⟨h,_⟩
 · exact .inl h
 · exact newR_own h
theorem GrowR.lt {W:World} {base e size:Nat} {a:Option Addr} {n cap:Nat} {xs:List Value} {row:Option Nat} (h:GrowR W base e size a n cap xs row):∀ q,row=some q→base≤q∧q<W.heap.size:=by
 intro q hq
 rcases h with ⟨ad,_,_,_,_,h⟩ | ⟨h,hr⟩
 · rw[h] at hq;cases hq
 · exact h.lt q (by rw[←hr];exact hq)
theorem GrowR.later {W W':World} {base e size:Nat} {a:Option Addr} {n cap:Nat} {xs:List Value} {row:Option Nat} (h:GrowR W base e size a n cap xs row) (hb:Below W.heap.size W W'):GrowR W' base e size a n cap xs row:=by
 rcases h with h | ⟨h,hr⟩
 · exact .inl h
 · refine .inr ⟨h.kept (row:=none) ⟨hb.os,hb.tape,hb.output,hb.size,fun k hk _=>hb.block k hk⟩ ?_,hr⟩
   cases (Value.slice a n cap).ownBlock with
   | none=>exact .inl rfl
   | some k=>exact .inr (by simp)
theorem GrowR.lower {W:World} {base base' e size:Nat} {a:Option Addr} {n cap:Nat} {xs:List Value} {row:Option Nat} (h:GrowR W base e size a n cap xs row) (hb:base'≤base):GrowR W base' e size a n cap xs row:=by
 rcases h with h | ⟨h,hr⟩
 · exact .inl h
 · exact .inr ⟨h.mono hb,hr⟩
theorem GrowR.setCell {W:World} {base e size:Nat} {a:Option Addr} {n cap:Nat} {xs:List Value} {row:Option Nat} (h:GrowR W base e size a n cap xs row) (p:Addr) (hp:p.block<base) (u:Value):GrowR (W.setCell p u) base e size a n cap xs row:=by
 rcases h with h | ⟨h,hr⟩
 · exact .inl h
 · exact .inr ⟨own_set h p hp u,hr⟩
def NewQ (W:World) (lo hi:Nat) (a:Option Addr) (xs:List Value):Prop:=NewR W lo a xs∧∀ g,xs≠[]→a=some ⟨g,0,none⟩→g<hi
theorem NewQ.later {W W':World} {lo hi:Nat} {a:Option Addr} {xs:List Value} (h:NewQ W lo hi a xs) (hb:Below W.heap.size W W'):NewQ W' lo hi a xs:=⟨h.1.later hb,h.2⟩
theorem NewQ.kept {W W':World} {lo hi:Nat} {a:Option Addr} {xs:List Value} {row:Option Nat} (h:NewQ W lo hi a xs) (hg:W.grownBy W' row) (hr:∀ g,lo≤g→g<hi→some g≠row):NewQ W' lo hi a xs:=by
 refine⟨?_,h.2⟩
 by_cases he:xs=[]
 · exact .inl he
 · exact h.1.kept hg (fun g h1 _ h3=>hr g h1 (h.2 g he h3))
theorem NewQ.setCell {W:World} {lo hi:Nat} {a:Option Addr} {xs:List Value} (h:NewQ W lo hi a xs) (p:Addr) (hp:p.block<lo) (v:Value):NewQ (W.setCell p v) lo hi a xs:=⟨h.1.setCell p hp v,h.2⟩
theorem NewQ.lower {W:World} {lo lo' hi hi':Nat} {a:Option Addr} {xs:List Value} (h:NewQ W lo hi a xs) (hb:lo'≤lo) (hh:hi≤hi'):NewQ W lo' hi' a xs:=⟨h.1.lower hb,fun g h1 h2=>Nat.lt_of_lt_of_le (h.2 g h1 h2) hh⟩
theorem newQ_of {W:World} {lo:Nat} {a:Option Addr} {xs:List Value} (h:NewR W lo a xs):NewQ W lo W.heap.size a xs:=⟨h,fun g he ha=>by
 rcases h with h | ⟨g',h0,_,h2,_⟩
 · exact absurd h he
 · rw[ha] at h0;cases h0;exact h2⟩
theorem run_grow0 {P:Program} (W:World) (t e:TypeId) (i:TypeInfo) (z:Value) (size bytes:Nat) (ht:P.underlying t=some (.slice e)) (hi:P.info? e=some i) (hz:i.zero=some z)
 (hsize:i.size=size) (hby:i.bytes=bytes) (hzs:z.cells.size=size) (ad ad2:Addr) (m c:Nat) (xs:List Value) (hl:xs.length=m*size) (hcs:∀ j u,xs[j]? = some u→W.cell? (ad2.add j)=some u) (h1:∀ u∈xs,u.oneCell'=true)
 (hm:0<m) (h63:m≤1048577) (hbytes:bytes≤64) :
 ∃ c' w',(∀ ty,(Builtin.append_ #[t,t] ty #[.slice (some ad) 0 0,.slice (some ad2) m c]).run P W=.ok (.slice (some ⟨W.heap.size,0,none⟩) m c') w')∧w'.ownsRow W.heap.size e size (.slice (some ⟨W.heap.size,0,none⟩) m c') m xs∧W.grownBy w' none:=by
 have hsrc:Src P i.size t (.slice (some ad2) m c) m xs W:=Src.ofSlice W ht ad2 m c xs (by rw[hsize];exact hl) hcs h1
 have hge:=grownCap_ge W (0+m) 0 e
 have hrun:=fun ty=>run_append_grow_src W t t ty e i z ht hi hz (some ad) 0 0 [] (run_firstCells_some W.drew i.size 0 ad 0 0 [] (by simp) (by simp)) (.slice (some ad2) m c) m xs hsrc (by omega) (by omega) (growslice_fits (by omega) (by rw[hby];have:=Nat.mul_le_mul (Nat.le_of_eq (Nat.zero_add m)) hbytes;omega))
 rw[Nat.zero_add] at hrun
 have hge2:=grownCap_ge W m 0 e
 refine⟨_,_,hrun,⟨hl,.inr ⟨W.heap.size,_,_,rfl,Nat.le_refl _,heap_alloc_new W.drew _,hge2,grownCap_le_maxLen W m 0 e (by unfold maxLen;omega),?_,?_⟩⟩,⟨rfl,rfl,rfl,by simp,fun k hk _=>heap_alloc_old W.drew _ hk⟩⟩
 · simp only[List.nil_append,Array.size_append,List.size_toArray,size_zeroCells,hzs,hl,←Nat.add_mul]
   congr 1
   omega
 · simp only[List.nil_append,Array.toList_append]
   rw[←hl]
   exact List.take_left
theorem step_append_grow {P:Program} {W:World} {ops:Array Oper} {o:Oper} {a:Act} {K:Act→World→Prop} {Q:Exit→Act→World→Prop} {E:Prop} (hgd:o.guard=none) (s x:Operand) (t:TypeId)
 (ho:o.op=.call { callee:=.builtin .append,args:=#[s,x],argTypes:=#[t,t] })
 (e:TypeId) (i:TypeInfo) (z:Value) (size bytes:Nat) (ht:P.underlying t=some (.slice e)) (hi:P.info? e=some i) (hz:i.zero=some z)
 (hsize:i.size=size) (hby:i.bytes=bytes) (hzs:z.cells.size=size)
 (ad:Addr) (hs:a.eval s=.slice (some ad) 0 0)
 (a2:Option Addr) (m c:Nat) (xs:List Value) (hx:a.eval x=.slice a2 m c) (hl:xs.length=m*size) (hcs:m=0∨∃ ad2,a2=some ad2∧∀ j u,xs[j]? = some u→W.cell? (ad2.add j)=some u) (h1:∀ u∈xs,u.oneCell'=true)
 (h63:m≤1048576) (hbytes:bytes≤64)
 (h:∀ a' c' w' row,GrowR w' W.heap.size e size a' m c' xs row→Below W.heap.size W w'→K (a.put o.dst (.slice a' m c')) w') :
 if Region.wanted o (yielded ops a.tmps)=true then Oper.wp P o a W K Q else E:=by
 by_cases h0:m=0
 · subst h0
   have hxn:xs=[]:=List.length_eq_zero_iff.1 (by rw[hl];simp)
   subst hxn
   have hsrc:Src P i.size t (.slice a2 0 c) 0 [] W:=by
    cases a2 with
    | none=>exact Src.ofNil W ht c
    | some ad2=>exact Src.ofSlice W ht ad2 0 c [] (by simp) (by simp) (by simp)
   exact step_append_run hgd s x t t ho _ _ _ hs hx (fun ty=>run_append_nothing W t t ty e i ht hi (some ad) 0 0 (Nat.le_refl _) _ hsrc) (h (some ad) 0 W none (.inl ⟨ad,rfl,rfl,rfl,rfl,rfl⟩) (Below.refl _ _))
 · rcases hcs with hcs | ⟨ad2,rfl,hcs⟩
   · exact absurd hcs h0
   · obtain⟨c',w',hr,hown,hg⟩:=run_grow0 W t e i z size bytes ht hi hz hsize hby hzs ad ad2 m c xs hl hcs h1 (by omega) (by omega) hbytes
     exact step_append_run hgd s x t t ho _ _ _ hs hx hr (h _ c' w' _ (.inr ⟨hown,rfl⟩) ⟨hg.os,hg.tape,hg.output,hg.size,fun k hk=>hg.block k hk (by simp)⟩)
theorem wpList_append_grow {P:Program} {w:World} {ops:Array Oper} {rest:List Oper} {o:Oper} {a:Act} {Q:Exit→Act→World→Prop} (hgd:o.guard=none) (s x:Operand) (t:TypeId)
 (ho:o.op=.call { callee:=.builtin .append,args:=#[s,x],argTypes:=#[t,t] })
 (base:Nat) (e:TypeId) (i:TypeInfo) (z:Value) (size bytes:Nat) (ht:P.underlying t=some (.slice e)) (hi:P.info? e=some i) (hz:i.zero=some z)
 (hsize:i.size=size) (hby:i.bytes=bytes) (hzs:z.cells.size=size) (hsz:0<size)
 (a1:Option Addr) (n c1:Nat) (xs:List Value) (row:Option Nat) (hs:a.eval s=.slice a1 n c1) (hown:GrowR w base e size a1 n c1 xs row)
 (ad:Addr) (m c:Nat) (news:List Value) (hx:a.eval x=.slice (some ad) m c) (hl:news.length=m*size) (hnews:∀ j u,news[j]? = some u→w.cell? (ad.add j)=some u) (h1:∀ u∈news,u.oneCell'=true)
 (hm:0<m) (h63:n+m≤1048577) (hbytes:bytes≤64) (hbase:base≤w.heap.size)
 (h:∀ g cap w',w'.ownsRow base e size (.slice (some ⟨g,0,none⟩) (n+m) cap) (n+m) (xs ++ news)→w.grownBy w' row→wpList P ops Q rest (a.put o.dst (.slice (some ⟨g,0,none⟩) (n+m) cap)) w'):wpList P ops Q (o :: rest) a w:=by
 rcases hown with ⟨ad1,rfl,rfl,rfl,rfl,rfl⟩ | ⟨hown,rfl⟩
 · obtain⟨c',w',hr,ho2,hg⟩:=run_grow0 w t e i z size bytes ht hi hz hsize hby hzs ad1 ad m c news hl hnews h1 hm (by omega) hbytes
   refine wpList_plain hgd fun _ hK=>?_
   unfold Oper.wp execOp
   simp only[ho,resolve,invoke,builtin,Sem.run_bind,Sem.run_pure,Result.andThen_ok,List.map_toArray,List.map_cons,List.map_nil,hs,hx,hr]
   have h':=h w.heap.size c' w'
   rw[Nat.zero_add,List.nil_append] at h'
   exact hK _ _ (h' (ho2.mono hbase) hg)
 · refine wpList_append_lies w hgd s x t ho base e i z size bytes ht hi hz hsize hby hzs hsz _ n xs hs hown ad m c news hx hl hnews h1 hm (by unfold maxLen;omega) ?_ hbase _ rfl (fun g cap w' h2 h3 _ _=>h g cap w' h2 h3)
   have:=Nat.mul_le_mul h63 hbytes
   omega
theorem run_append_grow1 {P:Program} (w:World) (t ty:TypeId) (base:Nat) (e:TypeId) (i:TypeInfo) (z:Value) (size bytes:Nat) (ht:P.underlying t=some (.slice e)) (hi:P.info? e=some i) (hz:i.zero=some z)
 (hsize:i.size=size) (hby:i.bytes=bytes) (hzs:z.cells.size=size) (hsz:0<size)
 (a1:Option Addr) (n c1:Nat) (xs:List Value) (row:Option Nat) (hown:GrowR w base e size a1 n c1 xs row)
 (ad:Addr) (m c:Nat) (news:List Value) (hl:news.length=m*size) (hnews:∀ j u,news[j]? = some u→w.cell? (ad.add j)=some u) (h1:∀ u∈news,u.oneCell'=true)
 (hm:0<m) (h63:n+m≤1048577) (hbytes:bytes≤64) (hbase:base≤w.heap.size) :
 ∃ g cap w',(Builtin.append_ #[t,t] ty #[.slice a1 n c1,.slice (some ad) m c]).run P w=.ok (.slice (some ⟨g,0,none⟩) (n+m) cap) w'∧w'.ownsRow base e size (.slice (some ⟨g,0,none⟩) (n+m) cap) (n+m) (xs ++ news)∧w.grownBy w' row∧(row=some g∨g=w.heap.size):=by
 rcases hown with ⟨ad1,rfl,rfl,rfl,rfl,rfl⟩ | ⟨hown,rfl⟩
 · obtain⟨c',w',hr,ho2,hg⟩:=run_grow0 w t e i z size bytes ht hi hz hsize hby hzs ad1 ad m c news hl hnews h1 hm (by omega) hbytes
   refine⟨w.heap.size,c',w',?_,?_,hg,.inr rfl⟩
   · rw[Nat.zero_add];exact hr ty
   · rw[Nat.zero_add,List.nil_append];exact ho2.mono hbase
 · have hb:(n+m)*bytes≤140737488355328:=by
    have:=Nat.mul_le_mul h63 hbytes
    omega
   obtain⟨g,cap,w',hr,h2,h3,h4,_⟩:=run_append_lies (P:=P) w t ty base e i z size bytes ht hi hz hsize hby hzs hsz _ n xs hown ad m c news hl hnews h1 hm (by unfold maxLen;omega) hb hbase _ rfl
   exact⟨g,cap,w',hr,h2,h3,h4⟩
def actL (live safe:List PairL) (ops:List DOpL) (o:DOpL):List PairL × List PairL × List DOpL × Int :=
 if formOk o=false then (live,safe,ops,2) else if (doF live o).2=false then (live,safe,ops,3) else if ops.length=200∨filesOk (doF live o).1=false then (live,safe,ops,4) else ((doF live o).1,safe,ops ++ [o],0)
def doL (live safe:List PairL) (ops:List DOpL) (o:DOpL):List PairL × List PairL × List DOpL × Int:=if diskOk live safe ops=true then actL live safe ops o else ([],[],[],1)
end Go.Proofs.Ytlllkdioojjaeaa
