/-
 Texts that are laid as one: MathSm, MathAp, AppP, MapP, IApp, SAp.
-/
import Derived.Test.YtppljdnbhoeeoaaGreatDoorSetAll
import Derived.Test.YtppljdnbhoeeoaaGreatDoorBats
import Derived.Sort.KeysCollected
namespace Go.Proofs.YtppljdnbhoeeoaaGreatDoor
open Go.RowKit
set_option linter.unusedVariables false
set_option maxHeartbeats 4000000
set_option maxRecDepth 100000
theorem ziy {k v:List UInt8}:∀ (ps:List za) (L:List za) (d:Bool),(d=true→(ps.foldl (zbq k v) (L,d)).2=true)∧∀ x,x∈(ps.foldl (zbq k v) (L,d)).1↔x∈L∨(x∈ps∧x.1≠k)∨(d=false∧(ps.foldl (zbq k v) (L,d)).2=true∧x=(k,v))
 | [], L, d => ⟨fun h => h, fun x => by
     constructor
     · exact .inl
     · rintro (h | ⟨h,_⟩ | ⟨h1,h2,_⟩)
       · exact h
       · simp at h
       · simp only[List.foldl_nil] at h2;rw[h1] at h2;cases h2⟩
 | p :: ps, L, d => by
   rw[List.foldl_cons]
   cases hd:(!d && !(Op.bytesLess p.1 k)) with
   | true =>
     have hdf:d=false:=by cases d <;> simp_all
     have e:zbq k v (L,d) p=(if p.1=k then L ++ [(k,v)] else L ++ [(k,v)] ++ [p],true):=by unfold zbq;rw[if_pos hd]
     rw[e]
     obtain⟨h1,h2⟩:=ziy (k:=k) (v:=v) ps (if p.1=k then L ++ [(k,v)] else L ++ [(k,v)] ++ [p]) true
     have h1':=h1 rfl
     refine⟨fun _=>h1',fun x=>?_⟩
     rw[h2]
     constructor
     · rintro (h | h | ⟨h,_⟩)
       · split at h
         · rcases List.mem_append.1 h with h | h
           · exact .inl h
           · exact .inr (.inr ⟨hdf,h1',List.mem_singleton.1 h⟩)
         · rename_i hk
           rcases List.mem_append.1 h with h | h
           · rcases List.mem_append.1 h with h | h
             · exact .inl h
             · exact .inr (.inr ⟨hdf,h1',List.mem_singleton.1 h⟩)
           · rw[List.mem_singleton] at h
             exact .inr (.inl ⟨by rw[h];simp,by rw[h];exact hk⟩)
       · exact .inr (.inl ⟨List.mem_cons_of_mem _ h.1,h.2⟩)
       · cases h
     · rintro (h | ⟨h,hx⟩ | ⟨_,_,h⟩)
       · left;split <;> simp[h]
       · rcases List.mem_cons.1 h with h | h
         · left;rw[if_neg (by rw[←h];exact hx),h];simp
         · exact .inr (.inl ⟨h,hx⟩)
       · left;rw[h];split <;> simp
   | false =>
     have e:zbq k v (L,d) p=(if p.1=k then L else L ++ [p],d):=by unfold zbq;rw[if_neg (by rw[hd];simp)]
     rw[e]
     obtain⟨h1,h2⟩:=ziy (k:=k) (v:=v) ps (if p.1=k then L else L ++ [p]) d
     refine⟨h1,fun x=>?_⟩
     rw[h2]
     constructor
     · rintro (h | h | h)
       · split at h
         · exact .inl h
         · rename_i hk
           rcases List.mem_append.1 h with h | h
           · exact .inl h
           · rw[List.mem_singleton] at h
             exact .inr (.inl ⟨by rw[h];simp,by rw[h];exact hk⟩)
       · exact .inr (.inl ⟨List.mem_cons_of_mem _ h.1,h.2⟩)
       · exact .inr (.inr h)
     · rintro (h | ⟨h,hx⟩ | h)
       · left;split <;> simp[h]
       · rcases List.mem_cons.1 h with h | h
         · left;rw[if_neg (by rw[←h];exact hx),h];simp
         · exact .inr (.inl ⟨h,hx⟩)
       · exact .inr (.inr h)
theorem ziz (ps:List za) (k v:List UInt8) (x:za):x∈setL ps k v↔(x∈ps∧x.1≠k)∨(v≠[]∧x=(k,v)):=by
 obtain⟨h1,h2⟩:=ziy (k:=k) (v:=v) ps [] (decide (v=[]))
 have h1':decide (v=[])=true→(zb8 k v ps).2=true:=h1
 have h2':∀ x,x∈(zb8 k v ps).1↔x∈[]∨(x∈ps∧x.1≠k)∨(decide (v=[])=false∧(zb8 k v ps).2=true∧x=(k,v)):=h2
 unfold setL
 by_cases hv:v=[]
 · rw[if_pos (h1' (by simpa using hv)),h2']
   simp[hv]
 · have hd:decide (v=[])=false:=by simpa using hv
   split
   · rename_i ht
     rw[h2',hd,ht]
     simp[hv]
   · rename_i ht
     rw[List.mem_append,h2',List.mem_singleton]
     simp[hv,ht]
def zal (ps:List za) (os:List OpL):List za:=os.foldl (fun l o=>setL l o.1 o.2.1) ps
def zbk (ps:List za) (c n:Int) (os:List OpL):Bool:=za3 ps && (zab c n os && za3 (zal ps os))
def zat (ps:List za) (c n:Int) (os:List OpL):List za:=if zbk ps c n os=true then zal ps os else []
theorem zm3 (ps:List za) (os:List OpL):zal ps (os.take 0)=ps:=by simp[zal]
theorem zm4 (ps:List za) (os:List OpL) (j:Nat) (h:j<os.length):zal ps (os.take (j+1))=setL (zal ps (os.take j)) os[j].1 os[j].2.1:=by
 rw[List.take_succ_eq_append_getElem h,zal,List.foldl_append];rfl
theorem zfv:∀ (x y:List UInt8),Op.bytesLess x y=true↔x<y
 | _,[]=>by simp[Op.bytesLess]
 | [],_ :: _=>by simp[Op.bytesLess]
 | a :: ra, b :: rb => by
   rw[List.cons_lt_cons_iff]
   simp only[Op.bytesLess,Bool.or_eq_true,decide_eq_true_eq,Bool.and_eq_true,beq_iff_eq]
   constructor
   · rintro (h | ⟨h1,h2⟩)
     · exact .inl h
     · exact .inr ⟨h1,(zfv ra rb).1 h2⟩
   · rintro (h | ⟨h1,h2⟩)
     · exact .inl h
     · exact .inr ⟨h1,(zfv ra rb).2 h2⟩
theorem zj0 (a b:List UInt8):a<b∨a=b∨b<a:=by
 rcases Decidable.em (a<b) with h | h
 · exact .inl h
 · rcases Decidable.em (b<a) with h' | h'
   · exact .inr (.inr h')
   · exact .inr (.inl (List.le_antisymm (List.not_lt.1 h') (List.not_lt.1 h)))
def Rise (ps:List za):Prop:=ps.Pairwise (fun x y=>x.1<y.1)
theorem zm5 {l:List za} (h:za3 l=true):Rise l:=by
 have ho:=(zfj l h).2
 have hs:∀ i (hi:i+1<l.length),l[i].1<l[i+1].1:=fun i hi=>by
  have:=ho (i+1) hi
  simp only[okAt,Bool.and_eq_true,Bool.or_eq_true,decide_eq_true_eq] at this
  rcases this.2 with h0 | h0
  · omega
  · have h1:Op.bytesLess (keyAt l i) (keyAt l (i+1))=true:=by simpa using h0
    rw[zad l i (by omega),zad l (i+1) hi,zfv] at h1
    exact h1
 have hlt:∀ (k i:Nat) (hi:i+1+k<l.length),(l[i]'(by omega)).1<l[i+1+k].1:=by
  intro k
  induction k with
  | zero=>intro i hi;exact hs i hi
  | succ k ih=>intro i hi;exact List.lt_trans (ih i (by omega)) (hs (i+1+k) hi)
 refine List.pairwise_iff_getElem.2 fun i j hi hj hij=>?_
 have:=hlt (j - i - 1) i (by omega)
 have e:i+1+(j - i - 1)=j:=by omega
 simp only[e] at this
 exact this
def insK (k v:List UInt8):List za:=if v=[] then [] else [(k,v)]
def loK (k:List UInt8) (ps:List za):List za:=ps.filter (fun x=>decide (x.1<k))
def hiK (k:List UInt8) (ps:List za):List za:=ps.filter (fun x=>decide (k<x.1))
theorem zj1 {k v:List UInt8}:∀ (ps L:List za),ps.foldl (zbq k v) (L,true)=(L ++ ps.filter (fun x=>decide (x.1≠k)),true)
 | [],L=>by simp
 | p :: ps, L => by
   rw[List.foldl_cons,zil k v L true p (.inl rfl),zj1]
   by_cases e:p.1=k
   · rw[if_pos e,List.filter_cons_of_neg (by simpa using e)]
   · rw[if_neg e,List.filter_cons_of_pos (by simpa using e)];simp
theorem zm6 {k:List UInt8} {ps:List za} (h:∀ x∈ps,¬ x.1<k):ps.filter (fun x=>decide (x.1≠k))=hiK k ps:=by
 unfold hiK
 refine List.filter_congr fun x hx=>?_
 have:=h x hx
 rcases zj0 x.1 k with h1 | h1 | h1
 · exact absurd h1 this
 · simp[h1,List.lt_irrefl]
 · have:x.1≠k:=fun e=>by rw[e] at h1;exact List.lt_irrefl _ h1
   simp[h1,this]
theorem zm7 {k:List UInt8} {ps:List za} (h:∀ x∈ps,¬ x.1<k):loK k ps=[]:=by
 unfold loK
 rw[List.filter_eq_nil_iff]
 intro x hx
 simpa using h x hx
theorem zm8 {k:List UInt8} {p:za} {ps:List za} (h:Rise (p :: ps)) (hk:¬ p.1<k):∀ x∈p :: ps,¬ x.1<k:=fun x hx h'=>by
 rcases List.mem_cons.1 hx with e | e
 · rw[e] at h';exact hk h'
 · exact hk (List.lt_trans ((List.pairwise_cons.1 h).1 x e) h')
theorem zm9 {k v:List UInt8}:∀ (ps L:List za),Rise ps→(if (ps.foldl (zbq k v) (L,false)).2=true then (ps.foldl (zbq k v) (L,false)).1 else (ps.foldl (zbq k v) (L,false)).1 ++ [(k,v)])=L ++ loK k ps ++ [(k,v)] ++ hiK k ps
 | [],L,_=>by simp[loK,hiK]
 | p :: ps, L, h => by
   rw[List.foldl_cons]
   by_cases hk:p.1<k
   · have hne:p.1≠k:=fun e=>by rw[e] at hk;exact List.lt_irrefl _ hk
     have hng:¬ k<p.1:=fun e=>List.lt_irrefl _ (List.lt_trans hk e)
     rw[zil k v L false p (.inr ((zfv _ _).2 hk)),if_neg hne,zm9 ps (L ++ [p]) (List.pairwise_cons.1 h).2]
     simp[loK,hiK,hk,hng]
   · have hb:Op.bytesLess p.1 k=false:=by
      cases hq:Op.bytesLess p.1 k with
      | false=>rfl
      | true=>exact absurd ((zfv _ _).1 hq) hk
     have hge:=zm8 h hk
     rw[zlj k v L p hb,zj1,if_pos rfl,zm7 hge]
     show (if p.1=k then L ++ [(k,v)] else L ++ [(k,v)] ++ [p]) ++ _=_
     rw[zm6 (fun x hx=>hge x (List.mem_cons_of_mem _ hx))]
     by_cases e:p.1=k
     · rw[if_pos e];simp[hiK,e,List.lt_irrefl]
     · have hg:k<p.1:=by rcases zj0 p.1 k with h1 | h1 | h1;exact absurd h1 hk;exact absurd h1 e;exact h1
       rw[if_neg e];simp[hiK,hg]
theorem zma {k:List UInt8}:∀ ps:List za,Rise ps→ps.filter (fun x=>decide (x.1≠k))=loK k ps ++ hiK k ps
 | [],_=>by simp[loK,hiK]
 | p :: ps, h => by
   by_cases hk:p.1<k
   · have hne:p.1≠k:=fun e=>by rw[e] at hk;exact List.lt_irrefl _ hk
     have hng:¬ k<p.1:=fun e=>List.lt_irrefl _ (List.lt_trans hk e)
     rw[List.filter_cons_of_pos (by simpa using hne),zma ps (List.pairwise_cons.1 h).2]
     simp[loK,hiK,hk,hng]
   · have hge:=zm8 h hk
     rw[zm6 hge,zm7 hge];rfl
theorem zmb (ps:List za) (k v:List UInt8) (h:Rise ps):setL ps k v=loK k ps ++ insK k v ++ hiK k ps:=by
 unfold setL zb8 insK
 by_cases hv:v=[]
 · rw[decide_eq_true hv,zj1,if_pos rfl,if_pos hv,zma ps h];simp
 · rw[decide_eq_false hv,zm9 ps [] h,if_neg hv];simp
theorem zmc {k:List UInt8} {ps:List za} {x:za} (h:x∈loK k ps):x∈ps∧x.1<k:=by simpa [loK] using h
theorem zmd {k:List UInt8} {ps:List za} {x:za} (h:x∈hiK k ps):x∈ps∧k<x.1:=by simpa [hiK] using h
theorem zme {k v:List UInt8} {x:za} (h:x∈insK k v):x.1=k:=by
 unfold insK at h
 split at h
 · simp at h
 · rw[List.mem_singleton.1 h]
theorem zmf (ps:List za) (k v:List UInt8) (h:Rise ps):Rise (setL ps k v):=by
 rw[zmb ps k v h]
 unfold Rise
 rw[List.pairwise_append,List.pairwise_append]
 refine⟨⟨h.sublist List.filter_sublist,?_,fun a ha b hb=>by rw[zme hb];exact (zmc ha).2⟩,h.sublist List.filter_sublist,fun a ha b hb=>?_⟩
 · unfold insK
   split
   · exact List.Pairwise.nil
   · exact List.pairwise_singleton _ _
 · rcases List.mem_append.1 ha with ha | ha
   · exact List.lt_trans (zmc ha).2 (zmd hb).2
   · rw[zme ha];exact (zmd hb).2
theorem zss (os:List OpL):∀ ps:List za,Rise ps→Rise (zal ps os):=by
 induction os with
 | nil=>exact fun ps h=>h
 | cons o r ih=>exact fun ps h=>ih _ (zmf ps _ _ h)
def inK (k:List UInt8) (ps:List za):Bool:=ps.any (fun x=>decide (x.1=k))
theorem zmg (k:List UInt8) (ps:List za):inK k ps=true↔∃ u,(k,u)∈ps:=by
 unfold inK
 rw[List.any_eq_true]
 exact⟨fun ⟨x,hx,e⟩=>⟨x.2,by rw[←of_decide_eq_true e];exact hx⟩,fun ⟨u,hu⟩=>⟨_,hu,by simp⟩⟩
theorem zj2 (k:List UInt8) (p:za) (ps:List za):inK k (p :: ps)=(decide (p.1=k) || inK k ps):=rfl
theorem zmh {k : List UInt8} : ∀ ps : List za, Rise ps → (loK k ps).length + (hiK k ps).length + (if inK k ps = true then 1 else 0) = ps.length
 | [],_=>by simp[loK,hiK,inK]
 | p :: ps, h => by
   have h2:=(List.pairwise_cons.1 h).2
   have ih:=zmh (k:=k) ps h2
   rcases zj0 p.1 k with hk | hk | hk
   · have hng:¬ k<p.1:=fun e=>List.lt_irrefl _ (List.lt_trans hk e)
     have hne:p.1≠k:=fun e=>by rw[e] at hk;exact List.lt_irrefl _ hk
     have e1:loK k (p :: ps)=p :: loK k ps:=List.filter_cons_of_pos (by simpa using hk)
     have e2:hiK k (p :: ps)=hiK k ps:=List.filter_cons_of_neg (by simpa using hng)
     rw[e1,e2,zj2,decide_eq_false hne,Bool.false_or,List.length_cons,List.length_cons]
     omega
   · have hno:inK k ps=false:=by
      cases hq:inK k ps with
      | false=>rfl
      | true =>
        obtain⟨u,hu⟩:=(zmg k ps).1 hq
        have:=(List.pairwise_cons.1 h).1 _ hu
        rw[hk] at this;exact absurd this (List.lt_irrefl _)
     have e1:loK k (p :: ps)=loK k ps:=List.filter_cons_of_neg (by simp[hk,List.lt_irrefl])
     have e2:hiK k (p :: ps)=hiK k ps:=List.filter_cons_of_neg (by simp[hk,List.lt_irrefl])
     rw[hno] at ih
     rw[e1,e2,zj2,decide_eq_true hk,Bool.true_or,List.length_cons]
     simp only[Bool.false_eq_true,if_false,if_true] at ih ⊢
     omega
   · have hng:¬ p.1<k:=fun e=>List.lt_irrefl _ (List.lt_trans hk e)
     have hne:p.1≠k:=fun e=>by rw[e] at hk;exact List.lt_irrefl _ hk
     have e1:loK k (p :: ps)=loK k ps:=List.filter_cons_of_neg (by simpa using hng)
     have e2:hiK k (p :: ps)=p :: hiK k ps:=List.filter_cons_of_pos (by simpa using hk)
     rw[e1,e2,zj2,decide_eq_false hne,Bool.false_or,List.length_cons,List.length_cons]
     omega
theorem zj3 (ps:List za) (k v:List UInt8) (h:Rise ps):(setL ps k v).length+(if inK k ps=true then 1 else 0)=ps.length+(if v=[] then 0 else 1):=by
 have:=zmh (k:=k) ps h
 rw[zmb ps k v h,List.length_append,List.length_append]
 unfold insK
 split
 · simp;omega
 · simp;omega
theorem zst (ps:List za) (k v:List UInt8) (h:Rise ps):(setL ps k v).length≤ps.length+1:=by
 have:=zj3 ps k v h
 split at this <;> split at this <;> omega
theorem zmi (os:List OpL):∀ ps:List za,Rise ps→(zal ps os).length≤ps.length+os.length:=by
 induction os with
 | nil=>intro ps _;simp[zal]
 | cons o r ih =>
   intro ps h
   have h1:=ih _ (zmf ps o.1 o.2.1 h)
   have h2:=zst ps o.1 o.2.1 h
   simp only[zal,List.foldl_cons,List.length_cons] at h1 ⊢
   omega
theorem zmj (os:List OpL):∀ ps:List za,(∀ p∈ps,p.1.length≤1048576∧p.2.length≤1048576)→(∀ o∈os,o.1.length≤1048576∧o.2.1.length≤1048576)→∀ p∈zal ps os,p.1.length≤1048576∧p.2.length≤1048576:=by
 induction os with
 | nil=>exact fun ps h _=>h
 | cons o r ih =>
   intro ps h ho
   refine ih _ (fun p hp=>?_) (fun x hx=>ho x (List.mem_cons_of_mem _ hx))
   rcases (ziz ps o.1 o.2.1 p).1 hp with ⟨h1,_⟩ | ⟨_,h1⟩
   · exact h p h1
   · rw[h1];exact ho o List.mem_cons_self
theorem zj4 {ps:List za} {c n:Int} {os:List OpL} (h:zbk ps c n os=false):zat ps c n os=[]:=by rw[zat,h];rfl
theorem zj5 {ps:List za} {c n:Int} {os:List OpL} (h:zbk ps c n os=true):zat ps c n os=zal ps os:=if_pos h
theorem zsu {w:World} {a:Option Addr} {ad:Addr} {qs:List za} (h:IsPairs w a qs) (ha:a=some ad):∀ j u,(zb qs)[j]? = some u→w.cell? (ad.add j)=some u:=by
 intro j u hu
 rcases h with rfl | ⟨b,off,h1,h2⟩
 · simp[zb] at hu
 · rw[h1] at ha
   cases ha
   have hj:j<qs.length*2:=by
    have:=(List.getElem?_eq_some_iff.1 hu).1
    rwa [zbu] at this
   have hc:=h2 (j / 2) (by omega)
   have hp:=zea qs (j / 2) (by omega)
   have hm:j % 2=0∨j % 2=1:=by omega
   have hadd:∀ x:Nat,(⟨b,off,none⟩:Addr).add x=⟨b,off+x,none⟩:=fun x=>by
    by_cases e:x=0
    · subst e;simp[Addr.add]
    · simp[Addr.add,e]
   rw[hadd]
   rcases hm with h0 | h0
   · have e:j=j / 2*2:=by omega
     rw[e] at hu ⊢
     rw[hp.1] at hu
     rw[hc.1,hu]
   · have e:j=j / 2*2+1:=by omega
     rw[e] at hu ⊢
     rw[hp.2] at hu
     rw[show off+(j / 2*2+1)=off+j / 2*2+1 by omega,hc.2,hu]
theorem zsv (qs:List za):∀ u∈zb qs,u.oneCell'=true:=by
 induction qs with
 | nil=>simp[zb]
 | cons p l ih=>simpa [zb,Value.oneCell'] using ih
theorem zj6 {P:Program} {w:World} {ops:Array Oper} {rest:List Oper} {o:Oper} {a:Act} {Q:Exit→Act→World→Prop} (hgd:o.guard=none) (s x:Operand) (t:TypeId)
 (ho:o.op=.call { callee:=.builtin .append,args:=#[s,x],argTypes:=#[t,t] })
 (base:Nat) (e:TypeId) (i:TypeInfo) (z:Value) (bytes:Nat) (ht:P.underlying t=some (.slice e)) (hi:P.info? e=some i) (hz:i.zero=some z)
 (hsize:i.size=2) (hby:i.bytes=bytes) (hzs:z.cells.size=2)
 (v:Value) (n:Nat) (xs:List Value) (hs:a.eval s=v) (hown:w.ownsRow base e 2 v n xs)
 (a2:Option Addr) (qs:List za) (m c:Nat) (hm:m=qs.length) (hx:a.eval x=.slice a2 m c) (hc:a2=none→c=0) (hp:IsPairs w a2 qs)
 (h63:n+m≤maxLen) (hbytes:(n+m)*bytes≤140737488355328) (hbase:base≤w.heap.size)
 (h:∀ v' w',w'.ownsRow base e 2 v' (n+m) (xs ++ zb qs)→w.grownBy w' v.ownBlock→wpList P ops Q rest (a.put o.dst v') w'):wpList P ops Q (o :: rest) a w:=by
 subst hm
 cases a2 with
 | none =>
   have hq:qs=[]:=by
    rcases hp with h | ⟨b,off,h,_⟩
    · exact h
    · cases h
   subst hq
   obtain rfl:=hc rfl
   refine wpList_append_own_none hgd s x t ho base e i 2 ht hi v n xs hs hown hx (h v w ?_ (World.grownBy.refl _ _))
   simpa [zb] using hown
 | some ad=>exact wpList_append_own w hgd s x t ho base e i z 2 bytes ht hi hz hsize hby hzs (by decide) v n xs hs hown ad qs.length c (zb qs) hx (zbu qs) (zsu hp rfl) (zsv qs) h63 hbytes hbase (fun v' w' h1 h2 _=>h v' w' h1 h2)
open Go.RowKit Go.Maps
def pv (p:za):Value:=.agg #[.string ⟨p.1.toArray⟩,.string ⟨p.2.toArray⟩]
def pvR (v:Value):Option (DataW Value × List MemPlace):=match v with
 | .agg ⟨[.string _,.string _]⟩=>some (.held v,[])
 | _=>none
theorem zmk (p:za):pvR (pv p)=some (.held (pv p),[]):=rfl
theorem zsw {v x:Value} {qs:List MemPlace} (h:pvR v=some (.held x,qs)):v=x:=by
 unfold pvR at h
 split at h
 · cases h;rfl
 · cases h
structure MapIs (D:DataW Value) (L:List za):Prop where
 tidy:Tidy D
 size:Maps.size D=L.length
 has:∀ k:List UInt8,Maps.has D (.string k)=true↔∃ v,(k,v)∈L
 at_:∀ p∈L,∀ z,D.atKey (.string p.1) z=.held (pv p)
theorem zsx:MapIs (.map []) []:=⟨tidy_empty,rfl,fun k=>by simp[has_eq],fun p hp=>by simp at hp⟩
theorem zj7 (k:List UInt8):WideAt.IsKeyLit (.string k):=trivial
theorem zgz {k k':List UInt8} (h:k'≠k):(Lit.string k':Lit)≠.string k:=fun e=>h (by cases e;rfl)
theorem zsy {D:DataW Value} {L:List za} (h:MapIs D L) {k:List UInt8} (hk:∀ v,(k,v) ∉ L):Maps.has D (.string k)=false:=by
 cases hh:Maps.has D (.string k) with
 | false=>rfl
 | true=>obtain⟨v,hv⟩:=(h.has k).1 hh;exact absurd hv (hk v)
theorem MapIs.put {D:DataW Value} {L M:List za} (h:MapIs D L) (k v:List UInt8) (hm:∀ x,x∈M↔(x∈L∧x.1≠k)∨x=(k,v)) (hl:M.length=if Maps.has D (.string k)=true then L.length else L.length+1):MapIs (D.put (.string k) (.held (pv (k,v)))) M where
 tidy:=h.tidy.put (zj7 k) _
 size:=by rw[size_put h.tidy,hl,h.size]
 has:=fun q=>by
  by_cases e:q=k
  · subst e
    rw[has_put_same h.tidy.isMap (zj7 q)]
    exact⟨fun _=>⟨v,(hm _).2 (.inr rfl)⟩,fun _=>rfl⟩
  · rw[has_put_other (zgz e),h.has]
    constructor
    · rintro⟨u,hu⟩;exact⟨u,(hm _).2 (.inl ⟨hu,e⟩)⟩
    · rintro⟨u,hu⟩
      rcases (hm _).1 hu with h1 | h1
      · exact⟨u,h1.1⟩
      · exact absurd (congrArg Prod.fst h1) e
 at_:=fun p hp z=>by
  rcases (hm p).1 hp with ⟨h1,h2⟩ | h1
  · rw[atKey_put_other (zgz h2),h.at_ p h1]
  · subst h1
    exact atKey_put_same h.tidy.isMap (zj7 k) _ _
theorem MapIs.del {D:DataW Value} {L M:List za} (h:MapIs D L) (k:List UInt8) (hm:∀ x,x∈M↔x∈L∧x.1≠k) (hl:M.length+(if Maps.has D (.string k)=true then 1 else 0)=L.length):MapIs (D.del (.string k)) M where
 tidy:=h.tidy.del _
 size:=by have:=size_del (k:=.string k) h.tidy;rw[h.size] at this;omega
 has:=fun q=>by
  by_cases e:q=k
  · subst e
    rw[has_del_same]
    exact⟨fun hh=>(by cases hh),fun ⟨u,hu⟩=>absurd rfl ((hm _).1 hu).2⟩
  · rw[has_del_other (zgz e),h.has]
    exact⟨fun ⟨u,hu⟩=>⟨u,(hm _).2 ⟨hu,e⟩⟩,fun ⟨u,hu⟩=>⟨u,((hm _).1 hu).1⟩⟩
 at_:=fun p hp z=>by
  obtain⟨h1,h2⟩:=(hm p).1 hp
  rw[atKey_del_other (zgz h2),h.at_ p h1]
theorem MapIs.hasIn {D:DataW Value} {L:List za} (h:MapIs D L) (k:List UInt8):Maps.has D (.string k)=inK k L:=by
 rw[Bool.eq_iff_iff,h.has,zmg]
theorem MapIs.set {D:DataW Value} {L:List za} (h:MapIs D L) (hr:Rise L) (k v:List UInt8) (hv:v≠[]):MapIs (D.put (.string k) (.held (pv (k,v)))) (setL L k v):=by
 refine h.put k v (fun x=>by rw[ziz];simp[hv]) ?_
 have:=zj3 L k v hr
 rw[if_neg hv] at this
 rw[h.hasIn]
 split at this <;> simp_all
theorem MapIs.cut {D:DataW Value} {L:List za} (h:MapIs D L) (hr:Rise L) (k:List UInt8):MapIs (D.del (.string k)) (setL L k []):=by
 refine h.del k (fun x=>by rw[ziz];simp) ?_
 have:=zj3 L k [] hr
 rw[h.hasIn]
 simpa using this
theorem MapIs.snoc {D:DataW Value} {L:List za} (h:MapIs D L) (k v:List UInt8) (hk:∀ x∈L,x.1≠k):MapIs (D.put (.string k) (.held (pv (k,v)))) (L ++ [(k,v)]):=by
 refine h.put k v (fun x=>?_) ?_
 · rw[List.mem_append,List.mem_singleton]
   exact⟨fun h'=>h'.imp (fun h1=>⟨h1,hk x h1⟩) id,fun h'=>h'.imp (fun h1=>h1.1) id⟩
 · rw[zsy h (fun u hu=>hk _ hu rfl)];simp
theorem MapIs.keys {D:DataW Value} {L:List za} (h:MapIs D L) (hr:Rise L) {P:Program} {kt:TypeId} (hkt:P.underlying kt=some .string) {w:World} {b n:Nat} (ho:w.ownsMap P kt pvR b n D) {ss:List (List UInt8)} (hs:ss.Perm (strKeys D)):ss.mergeSort leB=L.map (fun p=>p.1):=by
 obtain⟨es,rfl,hk⟩:=ho.keysOf
 have hnd:=List.pairwise_map.2 hr
 have hp:(L.map (fun p=>p.1)).Perm (strKeys (.map es)):=by
  obtain⟨es',he,hpw⟩:=h.tidy
  cases he
  refine perm_strKeys hpw (fun p hp=>?_) (hnd.imp (fun hab e=>by rw[e] at hab;exact List.lt_irrefl _ hab)) fun x=>?_
  · obtain⟨v,hv⟩:=hk p hp
    obtain⟨x,_,hx,_⟩:=Maps.keyOf_str hkt hv
    exact⟨x,hx⟩
  · rw[h.has,List.mem_map]
    exact⟨fun ⟨p,hp,e⟩=>⟨p.2,by rw[←e];exact hp⟩,fun ⟨v,hv⟩=>⟨_,hv,rfl⟩⟩
 rw[mergeSort_of_perm (hs.trans hp.symm)]
 have tr:∀ a b c:List UInt8,leB a b=true→leB b c=true→leB a c=true:=fun a b c h1 h2=>by simp only[leB,decide_eq_true_eq] at *;exact List.le_trans h1 h2
 have to:∀ a b:List UInt8,(leB a b || leB b a)=true:=fun a b=>by simp only[leB,Bool.or_eq_true,decide_eq_true_eq];exact List.le_total a b
 refine List.Perm.eq_of_pairwise (le:=fun a b=>leB a b=true) (fun a b _ _ h1 h2=>?_) (List.pairwise_mergeSort tr to _) (hnd.imp (fun hab=>by simp only[leB,decide_eq_true_eq];exact List.le_of_lt hab)) (List.mergeSort_perm _ leB)
 simp only[leB,decide_eq_true_eq] at h1 h2
 exact List.le_antisymm h1 h2
open Go.RowKit Go.Maps
theorem lawS:Keyed Tryz.prog 9:=string_keyed Tryz.underlying9
theorem zsz (k v : List UInt8) : ∀ w, Sem.run Tryz.prog (method 393 136 (.agg #[.string ⟨k.toArray⟩, .string ⟨v.toArray⟩]) "loop.example/g00226/impl.key") w = .ok (246, .agg #[.string ⟨k.toArray⟩, .string ⟨v.toArray⟩]) w := fun w => by kernel_rfl
theorem zt0 (k : List UInt8) : ∀ w, Sem.run Tryz.prog (method 393 137 (.string ⟨k.toArray⟩) "loop.example/g00226/impl.key") w = .ok (247, .string ⟨k.toArray⟩) w := fun w => by kernel_rfl
theorem taSS (k v:List UInt8):∀ w,Sem.run Tryz.prog (Instr.typeAssert (.iface 136 (.agg #[.string ⟨k.toArray⟩,.string ⟨v.toArray⟩])) 105 136 true) w=.ok (.tuple #[.agg #[.string ⟨k.toArray⟩,.string ⟨v.toArray⟩],.bool true]) w:=fun w=>by kernel_rfl
theorem taCS (k:List UInt8):∀ w,Sem.run Tryz.prog (Instr.typeAssert (.iface 137 (.string ⟨k.toArray⟩)) 105 136 true) w=.ok (.tuple #[.agg #[.string ⟨#[]⟩,.string ⟨#[]⟩],.bool false]) w:=fun w=>by kernel_rfl
theorem taCC (k:List UInt8):∀ w,Sem.run Tryz.prog (Instr.typeAssert (.iface 137 (.string ⟨k.toArray⟩)) 105 137 true) w=.ok (.tuple #[.string ⟨k.toArray⟩,.bool true]) w:=fun w=>by kernel_rfl
theorem zt1 (k v:List UInt8) (w:World):Calls Tryz.prog 246 #[.agg #[.string ⟨k.toArray⟩,.string ⟨v.toArray⟩]] w fun e w'=>e=.returned (.string ⟨k.toArray⟩)∧Below w.heap.size w w':=by
 go_enter Tryz.func246,Tryz.ntmps246
 go_wp2
 go_ret
 exact⟨rfl,(Below.refl _ _).alloc (Nat.le_refl _) _⟩
theorem zt2 (k:List UInt8) (w:World):Calls Tryz.prog 247 #[.string ⟨k.toArray⟩] w fun e w'=>e=.returned (.string ⟨k.toArray⟩)∧w'=w:=by
 go_enter Tryz.func247,Tryz.ntmps247
 go_wp2
 go_ret
 exact⟨rfl,rfl⟩
theorem zt3 (mb n:Nat) (D:DataW Value) (L:List za) (o:OpL) (w:World) (hk:o.1.length≤1048576) (hv:o.2.1.length≤1048576) (hok:opOk o=true) (hn:n<1048576) (hr:Rise L) (hD:MapIs D L) (ho:w.ownsMap Tryz.prog 9 pvR mb n D) :
 Calls Tryz.prog 61 #[.map (some mb),chV o] w fun e w'=>e=.returned (.tuple #[])∧∃ D',MapIs D' (setL L o.1 o.2.1)∧w'.ownsMap Tryz.prog 9 pvR mb (n+1) D'∧w.grownBy w' (some mb):=by
 obtain⟨k,v,c⟩:=o
 have hkey:keyOf Tryz.prog 9 (.string ⟨k.toArray⟩)=some (.string k):=by
  have hk':k.length≤1048576:=hk
  have:=WideMaps.keyOf_string_mk (P:=Tryz.prog) Tryz.underlying9 (s:=⟨k.toArray⟩) (by simp[ByteArray.size,maxLen];omega)
  simpa using this
 cases c with
 | true =>
   have hp:k.length≤12∧v=[]:=by simpa [opOk] using hok
   obtain⟨hk12,rfl⟩:=hp
   have fC:=zt0 k
   have t1:=taCS k
   have t2:=taCC k
   have KC:=zt2 k
   have HD:Hid _:=hD
   have HR:Hid _:=hr
   have HO:Hid (w.ownsMap Tryz.prog 9 pvR mb n D):=ho
   clear hD hr ho hok
   show Calls Tryz.prog 61 #[.map (some mb),.iface 137 (.string ⟨k.toArray⟩)] w _
   go_enter Tryz.func61,Tryz.ntmps61
   have HK:Hid (keyOf Tryz.prog 9 (.string ⟨k.toArray⟩)=some (.string k)):=hkey
   clear hkey
   obtain⟨w2,hrun,hown2,hturn2⟩:=HO.out.drop lawS Tryz.underlying101 HK.out 0
   have H2:Hid (w2.ownsMap Tryz.prog 9 pvR mb n (D.del (.string k))∧w.mapTurned w2 mb):=⟨hown2,hturn2⟩
   clear hown2 hturn2
   go_wp2_with (first
    | (go_at_call 247;refine (KC _).mono ?_;rintro e w1 ⟨rfl,rfl⟩))
   go_end0
   exact⟨rfl,_,HD.out.cut HR.out k,H2.out.1.mono (by omega),H2.out.2.grown⟩
 | false =>
   have hp:k.length≤12∧v≠[]∧v.length≤60:=by simpa [opOk] using hok
   obtain⟨hk12,hv0,hv60⟩:=hp
   have fS:=zsz k v
   have t1:=taSS k v
   have KS:=zt1 k v
   have HD:Hid _:=hD
   have HR:Hid _:=hr
   have HO:Hid (w.ownsMap Tryz.prog 9 pvR mb n D):=ho
   have HV:Hid (v≠[]):=hv0
   clear hD hr ho hok hv0
   show Calls Tryz.prog 61 #[.map (some mb),.iface 136 (.agg #[.string ⟨k.toArray⟩,.string ⟨v.toArray⟩])] w _
   go_enter Tryz.func61,Tryz.ntmps61
   have HK:Hid (keyOf Tryz.prog 9 (.string ⟨k.toArray⟩)=some (.string k)):=hkey
   have A0:=heap_alloc_new w (.cells #[.string ⟨k.toArray⟩,.string ⟨v.toArray⟩] 136)
   have HO1:Hid ((w.alloc (.cells #[.string ⟨k.toArray⟩,.string ⟨v.toArray⟩] 136)).ownsMap Tryz.prog 9 pvR mb n D):=HO.out.alloc _
   have HG1:Hid (w.grownBy (w.alloc (.cells #[.string ⟨k.toArray⟩,.string ⟨v.toArray⟩] 136)) (some mb)):=World.grownBy_alloc w _ _
   have HLT:Hid _:=HO.out.lt
   obtain⟨wa,hwa⟩:∃ wa,wa=w.alloc (.cells #[.string ⟨k.toArray⟩,.string ⟨v.toArray⟩] 136):=⟨_,rfl⟩
   have Sa:∀ W:World,W.heap[w.heap.size]? = some (.cells #[.string ⟨k.toArray⟩,.string ⟨v.toArray⟩] 136 (0,0))→W.cell? ⟨w.heap.size,0,none⟩=some (.string ⟨k.toArray⟩)∧W.cell? ⟨w.heap.size,1,none⟩=some (.string ⟨v.toArray⟩):=fun W hW=>(by
    constructor <;> simp only[World.cell?,hW] <;> rfl)
   have HSa:Hid _:=Sa
   clear hkey Sa
   go_wp2_with fail
   rw[←hwa] at A0 HO1 HG1 ⊢
   have X0:Hid _:=A0
   have KS2:=KS wa.drew
   have Sd:Hid _:=HSa.out wa.drew X0.out
   clear KS A0 hwa
   go_region_held3 (fun w'=>w'.cell? ⟨w.heap.size,0,none⟩=some (.string ⟨k.toArray⟩)∧w'.cell? ⟨w.heap.size,1,none⟩=some (.string ⟨v.toArray⟩))
    (first | with_reducible exact S5.out | with_reducible exact S4.out | with_reducible exact Sd.out)
    ((go_at_call 246
      with_reducible refine KS2.mono ?_
      rintro e w4 ⟨rfl,b4'⟩
      have b4:Below wa.heap.size wa w4:=⟨b4'.os,b4'.tape,b4'.output,b4'.size,b4'.block⟩
      have X4:Hid _:=(b4.block w.heap.size (lt_of_block X0.out)).trans X0.out
      have S4:Hid _:=HSa.out w4 X4.out
      have g4:wa.grownBy w4 none:=⟨b4.os,b4.tape,b4.output,b4.size,fun q hq _=>b4.block q hq⟩
      have G4:=HG1.out.trans ⟨b4.os,b4.tape,b4.output,b4.size,fun q hq _=>b4.block q hq⟩
      obtain⟨w5,hrun5,hm5,hg5⟩:=(HO1.out.kept g4 (by simp)).update (t:=101) (e:=103) lawS Tryz.underlying101 (by unfold maxLen;omega) HK.out (zmk (k,v))
      have M5:Hid _:=hm5
      have G5:Hid _:=G4.trans hg5
      have X5:=(hg5.block w.heap.size (lt_of_block X4.out) (by simp;have:=HLT.out;omega)).trans X4.out
      have S5:Hid _:=HSa.out w5 X5
      unfold pv at hrun5
      clear b4' b4 hm5 hg5 X5 g4 G4))
   all_goals
    go_wp2
    go_end0
    exact⟨rfl,_,HD.out.set HR.out k v HV.out,M5.out,G5.out⟩
def zj8 (w:World) (ok:Bool) (res:List za) (e:Ending) (w':World):Prop:=∃ (a:Option Addr) (m c:Nat),e=.returned (.tuple #[.slice a m c,.bool ok])∧w'.ownsRow w.heap.size 103 2 (.slice a m c) res.length (zb res)∧Below w.heap.size w w'
theorem zez {w w':World} {ok:Bool} {res:List za} (h1:ok=false) (h2:res=[]) (hb:Below w.heap.size w w'):zj8 w ok res (.returned (.tuple #[.slice none 0 0,.bool false])) w':=by
 subst h1 h2
 exact⟨none,0,0,rfl,World.ownsRow_nil _ _ _ _,hb⟩
theorem zt4:(Tryz.prog.info? 103).map (fun i=>(i.zero,i.size,i.bytes))=some (some (.agg #[.string ⟨#[]⟩,.string ⟨#[]⟩]),2,32):=by kernel_rfl
theorem zt5 {w:World} {B e n:Nat} {v:Value} {xs:List Value} (h:w.ownsRow B e 2 v n xs):∃ a m c,v=.slice a m c:=by
 rcases h.2 with ⟨h',h0⟩ | ⟨g,cap,cur,h',_⟩
 · exact⟨_,_,_,h'⟩
 · exact⟨_,_,_,h'⟩
theorem zt6 (a : Option Addr) (cap : Nat) (ps : List za) (c n : Int) (b : Option Addr) (cb : Nat) (os : List OpL) (w : World) (hl : ps.length ≤ 1048576) (hm : ∀ p ∈ ps, p.1.length ≤ 1048576 ∧ p.2.length ≤ 1048576) (hs : IsPairs w a ps) (hca : a = none → cap = 0) (hl2 : os.length ≤ 1048576) (hm2 : ∀ p ∈ os, p.1.length ≤ 1048576 ∧ p.2.1.length ≤ 1048576) (hs2 : IsOps w b os) :
 Calls Tryz.prog 49 #[.slice a ps.length cap,.agg #[.int .i64 c,.int .i64 n,.slice b os.length cb]] w fun e w'=>zj8 w (zbk ps c n os) (zat ps c n os) e w':=by
 obtain⟨i0,hi0,hz0,hz1,hz2⟩:=info_parts zt4
 have B0:Below w.heap.size w (w.alloc (.cells #[.int .i64 c,.int .i64 n,.slice b os.length cb] 40)):=(Below.refl _ _).alloc (Nat.le_refl _) _
 have H0:=heap_alloc_new w (.cells #[.int .i64 c,.int .i64 n,.slice b os.length cb] 40)
 have HQ:Hid (∀ W,Below (w.heap.size+1) (w.alloc (.cells #[.int .i64 c,.int .i64 n,.slice b os.length cb] 40)) W→W.heap[w.heap.size]? = some (.cells #[.int .i64 c,.int .i64 n,.slice b os.length cb] 40 (0,0))):=fun W hW=>(hW.block w.heap.size (by omega)).trans H0
 obtain⟨w0,hw0⟩:∃ w0,w0=w.alloc (.cells #[.int .i64 c,.int .i64 n,.slice b os.length cb] 40):=⟨_,rfl⟩
 have hsz0:w0.heap.size=w.heap.size+1:=by rw[hw0];simp
 have HS:Hid (∀ W,Below w0.heap.size w0 W→IsPairs W a ps):=fun W hW=>by rw[hw0] at hW;exact hs.later (B0.trans (hW.mono (by simp)))
 have HS2:Hid (∀ W,Below w0.heap.size w0 W→IsOps W b os):=fun W hW=>by rw[hw0] at hW;exact hs2.later (B0.trans (hW.mono (by simp)))
 have HB0:Hid (Below w.heap.size w w0):=by rw[hw0];exact B0
 have HC0:Hid (∀ W,Below w0.heap.size w0 W→W.cell? ⟨w.heap.size,0,none⟩=some (.int .i64 c)∧W.cell? ⟨w.heap.size,1,none⟩=some (.int .i64 n)∧W.cell? ⟨w.heap.size,2,none⟩=some (.slice b os.length cb)):=fun W hW=>by
  obtain⟨h1,h2,h3,_⟩:=zaf (HQ.out W (by rw[hsz0,hw0] at hW;exact hW))
  exact⟨h1,h2,h3⟩
 have K1:=zi1 a cap ps w0 hl hm (HS.out w0 (Below.refl _ _))
 have HK2:Hid (∀ W,Below w0.heap.size w0 W→_):=fun W hW=>zn2 c n b cb os W hl2 hm2 (HS2.out W hW)
 have HM:Hid _:=hm
 have HM2:Hid _:=hm2
 have HOK:Hid (zbk ps c n os=(za3 ps && (zab c n os && za3 (zal ps os)))):=rfl
 have HRN:Hid (zbk ps c n os=false→zat ps c n os=[]):=zj4
 have HRY:Hid (zbk ps c n os=true→zat ps c n os=zal ps os):=zj5
 have HBL:Hid (zab c n os=true→1≤os.length∧os.length≤12):=fun h=>by
  simp only[zab,Bool.and_eq_true,decide_eq_true_eq] at h
  exact⟨h.1.1.2,h.1.2⟩
 obtain⟨ok,hok⟩:∃ ok,ok=zbk ps c n os:=⟨_,rfl⟩
 obtain⟨res,hres⟩:∃ res,res=zat ps c n os:=⟨_,rfl⟩
 rw[←hok] at HOK HRN HRY
 rw[←hres] at HRN HRY
 rw[←hok,←hres]
 clear hs hs2 hm hm2 B0 H0 HQ hok hres
 cases hp:za3 ps with
 | false =>
   rw[hp] at K1
   have HO:Hid (ok=false):=by rw[Hid,HOK.out,hp];rfl
   clear HK2 HRY HBL HOK hp
   go_enter Tryz.func49,Tryz.ntmps49
   go_wp2_with fail
   rw[←hw0]
   refine K1.mono ?_
   rintro e w1 ⟨rfl,b1⟩
   have B1:=HB0.out.trans (b1.mono HB0.out.size)
   clear K1 b1
   go_wp2
   go_ret2
   exact zez HO.out (HRN.out HO.out) B1
 | true =>
   rw[hp] at K1
   have HR:Hid _:=zm5 hp
   have hp60:=(zfj ps hp).1
   cases hb:zab c n os with
   | false =>
     have HO:Hid (ok=false):=by rw[Hid,HOK.out,hp,hb];rfl
     rw[hb] at HK2
     clear HRY HBL HOK hp hb
     go_enter Tryz.func49,Tryz.ntmps49
     go_wp2_with fail
     rw[←hw0]
     refine K1.mono ?_
     rintro e w1 ⟨rfl,b1⟩
     obtain⟨q0,q1,q2⟩:=HC0.out w1 b1
     have K2:=HK2.out w1 b1
     have HB1:Hid _:=b1
     clear K1 b1 HK2
     go_wp2_with fail
     refine K2.mono ?_
     rintro e w2 ⟨rfl,b2⟩
     have b02:=HB1.out.trans (b2.mono HB1.out.size)
     have B2:=HB0.out.trans (b02.mono HB0.out.size)
     clear K2 b2 b02 q0 q1 q2
     go_wp2
     go_ret2
     exact zez HO.out (HRN.out HO.out) B2
   | true =>
     obtain⟨ho1,ho12⟩:=HBL.out hb
     rw[hb] at HK2
     have HOE:Hid (ok=za3 (zal ps os)):=by rw[Hid,HOK.out,hp,hb];rfl
     clear HBL HOK hp hb
     go_enter Tryz.func49,Tryz.ntmps49
     go_wp2_with fail
     rw[←hw0]
     refine K1.mono ?_
     rintro e w1 ⟨rfl,b1⟩
     obtain⟨q0,q1,q2⟩:=HC0.out w1 b1
     have K2:=HK2.out w1 b1
     have HB1:Hid _:=b1
     clear K1 b1 HK2
     go_wp2_with fail
     refine K2.mono ?_
     rintro e w2 ⟨rfl,b2⟩
     have b02:=HB1.out.trans (b2.mono HB1.out.size)
     have HB2:Hid (Below w0.heap.size w0 w2):=b02
     have XE:Below w2.heap.size w2 (w2.alloc (.cells #[] 103)):=(Below.refl _ _).alloc (Nat.le_refl _) _
     have HOL:Hid ((w2.alloc (.cells #[] 103)).ownsRow w2.heap.size 103 2 (.slice (some ⟨w2.heap.size,0,none⟩) 0 0) 0 []):=World.ownsRow_lit (e:=103) (size:=2) w2 #[] 0 (base:=w2.heap.size) (Nat.le_refl _) (Nat.zero_le _) rfl
     have HXE:Hid (Below w2.heap.size w2 (w2.alloc (.cells #[] 103))):=XE
     have HIE:Hid (IsPairs (w2.alloc (.cells #[] 103)) a ps):=HS.out _ (b02.trans (XE.mono b02.size))
     clear K2 b2 b02 q0 q1 q2 XE HB1
     go_wp2_with (at_builtin;refine zj6 rfl _ _ 54 rfl w2.heap.size 103 i0 (.agg #[.string ⟨#[]⟩,.string ⟨#[]⟩]) 32 Tryz.underlying54 hi0 hz0 hz1 hz2 rfl (.slice (some ⟨w2.heap.size,0,none⟩) 0 0) 0 [] rfl HOL.out a ps ps.length cap rfl rfl hca HIE.out (by unfold maxLen;omega) (by omega) (by simp) ?_;intro v3 w3 o3 g3;obtain⟨a3,m3,c3,rfl⟩:=zt5 o3)
     have B3:Below w2.heap.size w2 w3:=HXE.out.grown g3 HXE.out.size (fun q hq=>(HOL.out.lt q hq).1)
     have O3:w3.ownsRow w2.heap.size 103 2 (.slice a3 m3 c3) ps.length (zb ps):=by simpa using o3
     obtain⟨rfl,_,_⟩:=zac O3
     have b03:=HB2.out.trans (B3.mono HB2.out.size)
     have HB3:Hid _:=b03
     have HO3:Hid _:=O3.mono HB2.out.size
     have HSZ:Hid (w0.heap.size=w.heap.size+1∧ps.length≤60):=⟨hsz0,hp60⟩
     obtain⟨bb,off,rfl,_⟩:∃ bb off,b=some ⟨bb,off,none⟩∧True:=by
      rcases HS2.out w0 (Below.refl _ _) with h | ⟨bb,off,h,_⟩
      · rw[h] at ho1;simp at ho1
      · exact⟨bb,off,h,trivial⟩
     have HOC:Hid (∀ W,Below w0.heap.size w0 W→∀ j (h:j<os.length),W.cell? ⟨bb,off+j*3,none⟩=some (.string ⟨os[j].1.toArray⟩)∧W.cell? ⟨bb,off+j*3+1,none⟩=some (.string ⟨os[j].2.1.toArray⟩)):=fun W hW j h=>by
      rcases HS2.out W hW with h' | ⟨b',off',h',hc⟩
      · rw[h'] at h;simp at h
      · cases h';exact⟨(hc j h).1,(hc j h).2.1⟩
     clear o3 g3 B3 O3 b03 HOL HXE HIE HB2 hw0 hsz0 HS HS2 hca hl hp60 ho1
     go_loopw [6,7] (fun v6 v7 wr=>∃ (j c':Nat) (a':Option Addr) (L:List za),j≤os.length∧v7=.int .i64 (j:Int)∧v6=.slice a' L.length c'∧Hid (L=zal ps (os.take j))∧Hid (wr.ownsRow w0.heap.size 103 2 (.slice a' L.length c') L.length (zb L))∧Hid (Below w0.heap.size w0 wr)) (fun _ v7 _=>os.length - (intOf v7).toNat)
     case atStart=>exact⟨0,c3,a3,ps,Nat.zero_le _,rfl,rfl,(zm3 ps os).symm,HO3,HB3⟩
     case round =>
      obtain⟨j,c',a',L,hj,rfl,rfl,HLE,HOW,HBW⟩:=hrel
      have hLl:L.length≤72:=by
       have h1:=zmi (os.take j) ps HR.out
       rw[←HLE.out] at h1
       have h2:=HSZ.out.2
       simp only[List.length_take] at h1
       omega
      have HLS:Hid (∀ p∈L,p.1.length≤1048576∧p.2.length≤1048576):=by
       rw[Hid,HLE.out]
       exact zmj _ ps HM.out (fun o ho=>HM2.out o (List.mem_of_mem_take ho))
      by_cases hlt:j<os.length
      · obtain⟨q0,q1,q2⟩:=HC0.out wr HBW.out
        obtain⟨r0,r1⟩:=HOC.out wr HBW.out j hlt
        obtain⟨hx1,hy1⟩:=HM2.out os[j] (List.getElem_mem _)
        have HNX:Hid (setL L os[j].1 os[j].2.1=zal ps (os.take (j+1))):=by rw[Hid,zm4 ps os j hlt,HLE.out]
        have hj0:(0:Int)≤(j:Int):=by omega
        have hj1:(j:Int)<(os.length:Int):=by omega
        have BD:Hid (Below w0.heap.size w0 wr.drew):=⟨HBW.out.os,HBW.out.tape,HBW.out.output,HBW.out.size,HBW.out.block⟩
        have HSC:Hid (∀ W,Below w0.heap.size w0 W→W.cell? ⟨w.heap.size,2,none⟩=some (.slice (some ⟨bb,off,none⟩) os.length cb)∧W.cell? ⟨bb,off+j*3,none⟩=some (.string ⟨os[j].1.toArray⟩)∧W.cell? ⟨bb,off+j*3+1,none⟩=some (.string ⟨os[j].2.1.toArray⟩)):=fun W hW=>⟨(HC0.out W hW).2.2,(HOC.out W hW j hlt).1,(HOC.out W hW j hlt).2⟩
        obtain⟨x,hx⟩:∃ x,x=os[j].1:=⟨_,rfl⟩
        obtain⟨y,hy⟩:∃ y,y=os[j].2.1:=⟨_,rfl⟩
        rw[←hx] at r0 HNX HSC hx1
        rw[←hy] at r1 HNX HSC hy1
        have K:=za2r a' c' L x y wr.drew (by omega) HLS.out hx1 hy1 (zac HOW.out).2.2
        obtain⟨M,hM⟩:∃ M,M=setL L x y:=⟨_,rfl⟩
        rw[←hM] at K HNX
        have Sr:Hid _:=HSC.out wr.drew BD.out
        clear hx hy hM hx1 hy1 HLS
        go_wp2
        go_region_held3 (fun w'=>w'.cell? ⟨w.heap.size,2,none⟩=some (.slice (some ⟨bb,off,none⟩) os.length cb)∧w'.cell? ⟨bb,off+j*3,none⟩=some (.string ⟨x.toArray⟩)∧w'.cell? ⟨bb,off+j*3+1,none⟩=some (.string ⟨y.toArray⟩))
         (first | with_reducible exact S4.out | with_reducible exact Sr.out)
         ((go_at_call 76
           with_reducible refine K.mono ?_
           rintro e w4 ⟨g4,c4,rfl,_,o4,b4⟩
           have B4:Hid _:=BD.out.trans (b4.mono BD.out.size)
           have O4:Hid _:=o4.mono BD.out.size
           have S4:Hid _:=HSC.out w4 B4.out
           clear o4 b4))
        all_goals
         clear Sr S4 K HSC BD HOW HBW q0 q1 q2 r0 r1
         go_wp2
         go_roundw
         case rel=>exact⟨j+1,c4,some ⟨g4,0,none⟩,M,by omega,by go_num,rfl,HNX,O4,B4⟩
         case measure=>simp[intOf];omega
      · have hjl:j=os.length:=by omega
        subst hjl
        obtain⟨q0,q1,q2⟩:=HC0.out wr HBW.out
        have HLA:Hid (L=zal ps os):=by have:=HLE.out;rwa [List.take_length] at this
        have K5:=zi1 a' c' L wr (by omega) HLS.out (zac HOW.out).2.2
        have HOK2:Hid (ok=za3 L):=by rw[Hid,HOE.out,HLA.out]
        obtain⟨r,hr⟩:∃ r,r=za3 L:=⟨_,rfl⟩
        rw[←hr] at K5 HOK2
        clear hr HLE HOE HLS
        go_wp2_with fail
        refine K5.mono ?_
        rintro e w5 ⟨rfl,b5⟩
        have b05:=HBW.out.trans (b5.mono HBW.out.size)
        have B5:Hid _:=HB0.out.trans (b05.mono HB0.out.size)
        have O5:Hid _:=(zaj HOW.out b5).mono HB0.out.size
        clear K5 b5 b05 HOW HBW q0 q1 q2
        cases r with
        | false =>
          go_wp2
          go_ret2
          exact zez HOK2.out (HRN.out HOK2.out) B5.out
        | true =>
          have HRE:Hid (res=L):=by rw[Hid,HRY.out HOK2.out,HLA.out]
          go_wp2
          go_ret2
          rw[HOK2.out,HRE.out]
          exact⟨a',_,c',rfl,O5.out,B5.out⟩
end Go.Proofs.YtppljdnbhoeeoaaGreatDoor
