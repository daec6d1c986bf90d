/-
 Texts that are laid as one: MathGet, StGet, MathWay, HeldV.
-/
import Derived.Test.YtppljdnbhoeeoaaGreatDoorStAll
namespace Go.Proofs.YtppljdnbhoeeoaaGreatDoor
open Go.RowKit
set_option linter.unusedVariables false
set_option maxHeartbeats 2000000
set_option maxRecDepth 100000
theorem zjk:∀ x:List UInt8,Op.bytesLess x x=false
 | []=>rfl
 | a :: x=>by simp[Op.bytesLess,zjk x]
theorem zne:∀ a b c:List UInt8,Op.bytesLess a b=true→Op.bytesLess b c=true→Op.bytesLess a c=true
 | _,_,[],_,h=>by simp[Op.bytesLess] at h
 | [],_,_ :: _,_,_=>by simp[Op.bytesLess]
 | a :: ra,[],_ :: _,h,_=>by simp[Op.bytesLess] at h
 | a :: ra, b :: rb, c :: rc, h1, h2 => by
   simp only[Op.bytesLess,Bool.or_eq_true,decide_eq_true_eq,Bool.and_eq_true,beq_iff_eq] at h1 h2 ⊢
   rcases h1 with h1 | ⟨rfl,h1⟩
   · rcases h2 with h2 | ⟨rfl,h2⟩
     · exact .inl (UInt8.lt_trans h1 h2)
     · exact .inl h1
   · rcases h2 with h2 | ⟨rfl,h2⟩
     · exact .inl h2
     · exact .inr ⟨rfl,zne ra rb rc h1 h2⟩
theorem zh8 (ps:List za) (h:zaa ps=true) (j:Nat) (hj:j<ps.length):stOk ps j=true:=by
 simp only[zaa,Bool.and_eq_true,List.all_eq_true,List.mem_range] at h
 exact h.2 j hj
theorem zjl (ps:List za) (h:zaa ps=true) (i:Nat):∀ m,i+1+m<ps.length→Op.bytesLess (keyAt ps i) (keyAt ps (i+1+m))=true
 | 0, hm => by
   have:=zh8 ps h (i+1) (by omega)
   simp only[stOk,Bool.and_eq_true,Bool.or_eq_true,decide_eq_true_eq] at this
   rcases this.2 with h0 | h0
   · omega
   · simpa using h0
 | m + 1, hm => by
   have:=zh8 ps h (i+1+(m+1)) (by omega)
   simp only[stOk,Bool.and_eq_true,Bool.or_eq_true,decide_eq_true_eq] at this
   rcases this.2 with h0 | h0
   · omega
   · rw[show i+1+(m+1) - 1=i+1+m by omega] at h0
     exact zne _ _ _ (zjl ps h i m (by omega)) h0
theorem zv0 (ps:List za) (h:zaa ps=true) (i j:Nat) (hi:i<ps.length) (hj:j<ps.length) (hne:i≠j):keyAt ps i≠keyAt ps j:=by
 intro e
 rcases Nat.lt_or_gt_of_ne hne with hl | hl
 · have:=zjl ps h i (j - i - 1) (by omega)
   rw[show i+1+(j - i - 1)=j by omega,e,zjk] at this
   cases this
 · have:=zjl ps h j (i - j - 1) (by omega)
   rw[show j+1+(i - j - 1)=i by omega,e,zjk] at this
   cases this
theorem znf (ps:List za) (h:zaa ps=true) (j:Nat) (hj:j<ps.length):(keyAt ps j).length=32:=by
 have:=zh8 ps h j hj
 simp only[stOk,Bool.and_eq_true,beq_iff_eq] at this
 rw[←this.1.2]
 exact zgc _
theorem zv1 (ps:List za) (hs:zaa ps=true) (h:List UInt8) (hl:h.length≠32):zm ps h=none :=
 zq7 ps h fun q hq e=>hl (by rw[←e];exact znf ps hs q hq)
theorem zv2 (a b:List UInt8) (ha:a.length=32) (hb:b.length=32) (hne:a≠b):zaw a≠zaw b:=by
 intro e
 have h1:=zim a ha
 have h2:=zim b hb
 rw[←e] at h2
 have h3:=arr32.law.inj h1 h2
 have h3:=List.toArray_inj (Value.agg.inj h3)
 refine hne ?_
 unfold ze at h3
 refine (List.map_inj_right ?_).1 h3
 intro x y hxy
 simp at hxy
 exact UInt8.toNat_inj.1 (by omega)
theorem zng (a:List UInt8):WideAt.IsKeyLit (zaw a):=by simp[zaw,WideAt.IsKeyLit]
theorem zv3 (w:World):(zeroValue 159).run Tryz.prog w=.ok (.agg #[.string ⟨#[]⟩,.int .i64 0,.string ⟨#[]⟩,.slice none 0 0,.string ⟨#[]⟩]) w:=by kernel_rfl
theorem zeh {w:World} {b:Nat} {u v x y z:Value} {t:TypeId} (h:w.heap[b]? = some (.cells #[u,v,x,y,z] t (0,0))) :
 w.cell? ⟨b,0,none⟩=some u∧w.cell? ⟨b,1,none⟩=some v∧w.cell? ⟨b,2,none⟩=some x∧w.cell? ⟨b,3,none⟩=some y∧w.cell? ⟨b,4,none⟩=some z∧∀ j,w.frozen? ⟨b,j,none⟩=false:=by
 refine⟨?_,?_,?_,?_,?_,fun j=>frozen_of_row w b j _ t h⟩ <;> simp only[World.cell?,h] <;> rfl
theorem zg4 {w:World} {b j:Nat} {u v x y z q:Value} {t:TypeId} (h:w.heap[b]? = some (.cells #[u,v,x,y,z] t (0,0))):(w.setCell ⟨b,j,none⟩ q).heap[b]? = some (.cells (#[u,v,x,y,z].setIfInBounds j q) t (0,0)):=by
 have hlt:=lt_of_block h
 have h':w.heap[b]=.cells #[u,v,x,y,z] t (0,0):=by simpa [Array.getElem?_eq_getElem hlt] using h
 show (w.heap.modify b _)[b]? = _
 rw[Array.getElem?_eq_getElem (by simpa using hlt),Array.getElem_modify_self,h']
 rfl
theorem zv4 {w:World} {b:Nat} {u0 u1 u2 u3 u4:Value} {t:TypeId} (z0 z1 z2 z3 z4:Value) (h:w.heap[b]? = some (.cells #[u0,u1,u2,u3,u4] t (0,0))) :
 (((((w.setCell ⟨b,0,none⟩ z0).setCell ⟨b,1,none⟩ z1).setCell ⟨b,2,none⟩ z2).setCell ⟨b,3,none⟩ z3).setCell ⟨b,4,none⟩ z4).heap[b]? = some (.cells #[z0,z1,z2,z3,z4] t (0,0)) :=
 zg4 (j:=4) (q:=z4) (zg4 (j:=3) (q:=z3) (zg4 (j:=2) (q:=z2) (zg4 (j:=1) (q:=z1) (zg4 (j:=0) (q:=z0) h))))
theorem zv5 {B b:Nat} {w w':World} (h:Below B w w') (hb:B≤b) (z0 z1 z2 z3 z4:Value):Below B w (((((w'.setCell ⟨b,0,none⟩ z0).setCell ⟨b,1,none⟩ z1).setCell ⟨b,2,none⟩ z2).setCell ⟨b,3,none⟩ z3).setCell ⟨b,4,none⟩ z4) :=
 ((((h.setCell hb _).setCell hb _).setCell hb _).setCell hb _).setCell hb _
def nodeAt (t:List UInt8):NodeL:=(za1 t).getD zeroN
theorem zv6 (t:List UInt8) (n:NodeL) (h:za1 t=some n):n.ok=true:=by
 unfold za1 at h
 split at h
 · cases h
 · unfold zd8 at h
   split at h
   · rename_i hk
     cases h
     exact hk.1
   · cases h
theorem zjm (t:List UInt8) (h:(za1 t).isSome=true):(nodeAt t).ok=true:=by
 obtain⟨n,hn⟩:=Option.isSome_iff_exists.1 h
 unfold nodeAt
 rw[hn]
 exact zv6 t n hn
theorem zjn (n:NodeL) (h:n.ok=true):n.p.length≤24∧zq n.p=true∧n.v.length≤60∧((n.k=1∧n.ls=[]∧n.v≠[])∨(n.k=2∧n.p≠[]∧n.v=[]∧∃ x,n.ls=[x]∧x.length=32)∨(n.k=3∧n.p=[]∧n.ls.length=16∧∀ l∈n.ls,l=[]∨l.length=32)):=by
 obtain⟨k,p,ls,v⟩:=n
 simp only[NodeL.ok,zba,zcg,Bool.and_eq_true,decide_eq_true_eq] at h
 obtain⟨⟨h1,h2,h3⟩,h4⟩:=h
 refine⟨h1,h2,h3,?_⟩
 unfold kindOk at h4
 split at h4
 · rename_i hk
   simp only[Bool.and_eq_true,decide_eq_true_eq,Bool.not_eq_true'] at h4
   exact .inl ⟨hk,List.length_eq_zero_iff.1 h4.2,fun e=>by subst e;simp at h4⟩
 · split at h4
   · rename_i hk
     simp only[Bool.and_eq_true,decide_eq_true_eq,Bool.not_eq_true'] at h4
     obtain⟨q1,q2,q3,q4⟩:=h4
     obtain⟨x,rfl⟩:=List.length_eq_one_iff.1 q3
     exact .inr (.inl ⟨hk,fun e=>by subst e;simp at q1,List.isEmpty_iff.1 q2,x,rfl,by simpa using q4⟩)
   · split at h4
     · rename_i hk
       simp only[zcf,Bool.and_eq_true,decide_eq_true_eq,List.all_eq_true] at h4
       obtain⟨q1,q2,q3,q4⟩:=h4
       refine .inr (.inr ⟨hk,List.isEmpty_iff.1 q1,q2,fun l hl=>?_⟩)
       have:=q3 l hl
       simp only[zao,Bool.or_eq_true,decide_eq_true_eq] at this
       rcases this with h | h
       · exact .inl (List.isEmpty_iff.1 h)
       · exact .inr h
     · cases h4
def uvR (v:Value):Option (DataW Value × List MemPlace):=match v with
 | .agg ⟨[.string _,.int .i64 _,.string _,.slice _ _ _,.string _]⟩=>some (.held v,[])
 | _=>none
theorem zv7 {v x:Value} {qs:List MemPlace} (h:uvR v=some (.held x,qs)):v=x:=by
 unfold uvR at h
 split at h
 · cases h;rfl
 · cases h
def datV:List za→List Value→DataW Value→DataW Value
 | p :: ps,v :: vs,D=>datV ps vs (D.put (zaw p.1) (.held v))
 | _,_,D=>D
theorem znh:∀ (ps:List za) (vs:List Value) (D:DataW Value) (v:Value) (h:vs.length<ps.length),datV ps (vs ++ [v]) D=(datV ps vs D).put (zaw (keyAt ps vs.length)) (.held v)
 | [],vs,D,v,h=>by simp at h
 | p :: ps, [], D, v, h => by
   rw[zad _ _ h]
   cases ps <;> rfl
 | p :: ps, x :: vs, D, v, h => by
   have h':vs.length<ps.length:=by simpa using h
   have:=znh ps vs (D.put (zaw p.1) (.held x)) v h'
   rw[zad _ _ h'] at this
   rw[zad _ _ h]
   exact this
def NodeIs (w:World) (lo:Nat) (t:List UInt8) (v:Value):Prop :=
 ∃ (a:Option Addr) (m c:Nat),v=.agg #[.string ⟨t.toArray⟩,.int .i64 (nodeAt t).k,.string ⟨(nodeAt t).p.toArray⟩,.slice a m c,.string ⟨(nodeAt t).v.toArray⟩]∧w.ownsRow lo 9 1 (.slice a m c) (nodeAt t).ls.length (zh (nodeAt t).ls)
theorem zf5 {w w':World} {b e n:Nat} {v:Value} {xs:List Value} (h:w.ownsRow b e 1 v n xs) (hb:Below w.heap.size w w'):w'.ownsRow b e 1 v n xs :=
 h.kept (row:=none) ⟨hb.os,hb.tape,hb.output,hb.size,fun k hk _=>hb.block k hk⟩ (by cases v.ownBlock with | none=>exact .inl rfl | some k=>exact .inr (by simp))
theorem NodeIs.kept {w w':World} {lo:Nat} {t:List UInt8} {v:Value} {row:Option Nat} (h:NodeIs w lo t v) (hg:w.grownBy w' row) (hr:∀ k,row=some k→k<lo):NodeIs w' lo t v:=by
 obtain⟨a,m,c,hv,ho⟩:=h
 refine⟨a,m,c,hv,ho.kept hg ?_⟩
 cases hb:(Value.slice a m c).ownBlock with
 | none=>exact .inl rfl
 | some k =>
   refine .inr fun e=>?_
   have h1:=(ho.lt k hb).1
   have h2:=hr k e.symm
   omega
def HeldM (w:World) (B:Nat) (ps:List za) (j:Nat):Prop :=
 ∃ vs:List Value,vs.length=j∧w.ownsMap Tryz.prog 161 uvR B j (datV ps vs (.map []))∧∀ q,q<j→NodeIs w (B+1) (zw ps q) (vs.getD q undef)
theorem HeldM.lt {w:World} {B:Nat} {ps:List za} {j:Nat} (h:HeldM w B ps j):B<w.heap.size:=by
 obtain⟨vs,_,h,_⟩:=h
 exact h.lt
theorem HeldM.kept {w w':World} {B:Nat} {ps:List za} {j:Nat} (h:HeldM w B ps j) (hg:w.grownBy w' none) (_:True):HeldM w' B ps j:=by
 obtain⟨vs,h1,h2,h3⟩:=h
 exact⟨vs,h1,h2.kept hg (by simp),fun q hq=>(h3 q hq).kept hg (by simp)⟩
theorem HeldM.later {w w':World} {B:Nat} {ps:List za} {j:Nat} (h:HeldM w B ps j) (hb:Below w.heap.size w w'):HeldM w' B ps j:=h.kept (zbw hb none) trivial
theorem HeldM.alloc {w:World} {B:Nat} {ps:List za} {j:Nat} (h:HeldM w B ps j) (o:Obj):HeldM (w.alloc o) B ps j:=h.kept (World.grownBy_alloc w o none) trivial
theorem zv8 (w:World) (ps:List za):HeldM (w.alloc (.map #[] 0)) w.heap.size ps 0 :=
 ⟨[],rfl,by have:=World.ownsMap_made w Tryz.prog 161 uvR;cases ps <;> exact this,fun q hq=>by omega⟩
theorem HeldM.update {w:World} {B:Nat} {ps:List za} {j:Nat} (h:HeldM w B ps j) (hj:j<ps.length) (hn:j<maxLen) {x y:List UInt8} (hx:x=keyAt ps j) (hy:y=zw ps j) (h32:x.length=32) {k:Int} {p v:List UInt8} {ls:List (List UInt8)} (hnd:nodeAt y=⟨k,p,ls,v⟩)
 {a:Option Addr} {m c:Nat} (ho:w.ownsRow (B+1) 9 1 (.slice a m c) (nodeAt y).ls.length (zh (nodeAt y).ls)) :
 ∃ w',(Instr.mapUpdate 128 (.map (some B)) (.agg (ze x).toArray) (.agg #[.string ⟨y.toArray⟩,.int .i64 k,.string ⟨p.toArray⟩,.slice a m c,.string ⟨v.toArray⟩])).run Tryz.prog w=.ok () w'∧HeldM w' B ps (j+1)∧w.grownBy w' (some B):=by
 obtain⟨vs,h1,h2,h3⟩:=h
 obtain⟨w',r1,r2,r3⟩:=h2.update (t:=128) (e:=159) zrs Tryz.underlying128 hn (zim x h32) (rfl:uvR (.agg #[.string ⟨y.toArray⟩,.int .i64 k,.string ⟨p.toArray⟩,.slice a m c,.string ⟨v.toArray⟩])=some (.held _,[]))
 refine⟨w',r1,⟨vs ++ [.agg #[.string ⟨y.toArray⟩,.int .i64 k,.string ⟨p.toArray⟩,.slice a m c,.string ⟨v.toArray⟩]],by simp[h1],?_,fun q hq=>?_⟩,r3⟩
 · rw[znh ps vs _ _ (by omega),h1,←hx]
   exact r2
 · by_cases e:q=j
   · subst e
     rw[←h1,List.getD_eq_getElem?_getD,List.getElem?_append_right (Nat.le_refl _),Nat.sub_self]
     rw[←h1] at hy
     rw[←hy]
     refine⟨a,m,c,by simp[hnd],?_⟩
     exact ho.kept r3 (by
      cases hb:(Value.slice a m c).ownBlock with
      | none=>exact .inl rfl
      | some z=>exact .inr fun e=>by have:=(ho.lt z hb).1;simp at e;omega)
   · have hq':q<j:=by omega
     rw[List.getD_eq_getElem?_getD,List.getElem?_append_left (by omega),←List.getD_eq_getElem?_getD]
     exact (h3 q hq').kept r3 (fun z hz=>by simp at hz;omega)
theorem zjo:∀ (ps:List za) (vs:List Value) (D:DataW Value) (h:List UInt8),h.length=32→(∀ p∈ps,p.1.length=32∧p.1≠h)→Maps.has (datV ps vs D) (zaw h)=Maps.has D (zaw h)∧∀ z,(datV ps vs D).atKey (zaw h) z=D.atKey (zaw h) z
 | [],_,D,h,_,_=>by simp[datV]
 | p :: ps,[],D,h,_,_=>by simp[datV]
 | p :: ps, v :: vs, D, h, hl, ho => by
   have hp:=ho p (by simp)
   have hne:=zv2 _ _ hl hp.1 (fun e=>hp.2 e.symm)
   obtain⟨q1,q2⟩:=zjo ps vs (D.put (zaw p.1) (.held v)) h hl (fun p' hp'=>ho p' (List.mem_cons_of_mem _ hp'))
   refine⟨?_,fun z=>?_⟩
   · rw[datV,q1,Maps.has_put_other hne]
   · rw[datV,q2,Maps.atKey_put_other hne]
theorem zni:∀ (ps:List za) (vs:List Value) (D:DataW Value) (i:Nat),Maps.IsMap D→vs.length=ps.length→i<ps.length→(∀ p∈ps,p.1.length=32)→(∀ j,i<j→j<ps.length→keyAt ps j≠keyAt ps i)→Maps.has (datV ps vs D) (zaw (keyAt ps i))=true∧∀ z,(datV ps vs D).atKey (zaw (keyAt ps i)) z=.held (vs.getD i undef)
 | [],_,D,i,_,_,hi,_,_=>by simp at hi
 | p :: ps,[],D,i,_,hl,_,_,_=>by simp at hl
 | p :: ps, v :: vs, D, 0, hD, hl, hi, h32, ho => by
   have hk:keyAt (p :: ps) 0=p.1:=zad _ 0 (by simp)
   rw[hk]
   have:=zjo ps vs (D.put (zaw p.1) (.held v)) p.1 (h32 p (by simp)) (fun p' hp'=>⟨h32 p' (List.mem_cons_of_mem _ hp'),by
    obtain⟨j,hj,rfl⟩:=List.getElem_of_mem hp'
    have h:=ho (j+1) (by omega) (by simpa using hj)
    rw[hk,zad _ (j+1) (by simpa using hj)] at h
    simpa using h⟩)
   refine⟨?_,fun z=>?_⟩
   · rw[datV,this.1];exact Maps.has_put_same hD (zng _) _
   · rw[datV,this.2,Maps.atKey_put_same hD (zng _) _ _];rfl
 | p :: ps, v :: vs, D, i + 1, hD, hl, hi, h32, ho => by
   have hi':i<ps.length:=by simpa using hi
   have hk:∀ j,j<ps.length→keyAt (p :: ps) (j+1)=keyAt ps j:=fun j hj=>by rw[zad _ (j+1) (by simpa using hj),zad _ j hj];simp
   have:=zni ps vs (D.put (zaw p.1) (.held v)) i (by obtain⟨es,rfl⟩:=hD;exact⟨_,rfl⟩) (by simpa using hl) hi' (fun p' hp'=>h32 p' (List.mem_cons_of_mem _ hp')) (fun j h1 h2=>by
    have h:=ho (j+1) (by omega) (by simpa using h2)
    rw[hk j h2,hk i hi'] at h
    exact h)
   rw[hk i hi']
   refine⟨?_,fun z=>?_⟩
   · rw[datV];exact this.1
   · rw[datV,this.2 z];simp
theorem znj (ps:List za) (h:zaa ps=true):∀ p∈ps,p.1.length=32:=fun p hp=>by
 obtain⟨j,hj,rfl⟩:=List.getElem_of_mem hp
 have:=znf ps h j hj
 rw[zad ps j hj] at this
 exact this
theorem zh9 (ps:List za) (hs:zaa ps=true) (h t:List UInt8) (hf:zm ps h=some t):∃ j,j<ps.length∧keyAt ps j=h∧zw ps j=t∧(za1 t).isSome=true:=by
 unfold zm at hf
 rw[Option.map_eq_some_iff] at hf
 obtain⟨p,hp,rfl⟩:=hf
 have h1:=List.find?_some hp
 obtain⟨j,hj,rfl⟩:=List.getElem_of_mem (List.mem_of_find?_eq_some hp)
 refine⟨j,hj,by rw[zad ps j hj];simpa using h1,zbo ps j hj,?_⟩
 have:=zh8 ps hs j hj
 simp only[stOk,Bool.and_eq_true] at this
 rw[←zbo ps j hj]
 exact this.1.1
theorem zv9 {w:World} {B:Nat} {ps:List za} (hs:zaa ps=true) (h:HeldM w B ps ps.length) (x:List UInt8) (hx:x.length=32):∃ D:DataW Value,w.ownsMap Tryz.prog 161 uvR B ps.length D∧((zm ps x=none∧Maps.has D (zaw x)=false∧∀ z,D.atKey (zaw x) z=z)∨(∃ t v,zm ps x=some t∧(za1 t).isSome=true∧Maps.has D (zaw x)=true∧(∀ z,D.atKey (zaw x) z=.held v)∧NodeIs w (B+1) t v)):=by
 obtain⟨vs,h1,h2,h3⟩:=h
 refine⟨_,h2,?_⟩
 cases hf:zm ps x with
 | none =>
   left
   have ho:∀ p∈ps,p.1.length=32∧p.1≠x:=fun p hp=>⟨znj ps hs p hp,fun e=>by
    have:ps.find? (fun p=>p.1 == x)=none:=by unfold zm at hf;simpa using hf
    rw[List.find?_eq_none] at this
    exact this p hp (by simp[e])⟩
   have:=zjo ps vs (.map []) x hx ho
   refine⟨rfl,by rw[this.1];simp[Maps.has],fun z=>?_⟩
   rw[this.2]
   have h0:Maps.has (.map []:DataW Value) (zaw x)=false:=by simp[Maps.has]
   exact Maps.atKey_of_not_has h0 z
 | some t =>
   right
   obtain⟨j,hj,hk,hv,hr⟩:=zh9 ps hs x t hf
   have:=zni ps vs (.map []) j (Maps.isMap_empty) h1 hj (znj ps hs) (fun i hi hl=>zv0 ps hs i j hl hj (by omega))
   rw[hk] at this
   refine⟨t,vs.getD j undef,rfl,hr,this.1,this.2,?_⟩
   rw[←hv]
   exact h3 j hj
def zva (w:World) (ok:Bool) (ps:List za) (e:Ending) (w':World):Prop:=match ok with
 | false=>e=.returned (.tuple #[.map none,.bool false])∧Below w.heap.size w w'
 | true=>∃ mb:Nat,e=.returned (.tuple #[.map (some mb),.bool true])∧HeldM w' mb ps ps.length∧w.heap.size≤mb∧Below w.heap.size w w'
theorem zvb (a : Option Addr) (cap : Nat) (ps : List za) (w : World) (hT : Tab w) (hl : ps.length ≤ 1048576) (hm : ∀ p ∈ ps, p.1.length ≤ 1048576 ∧ p.2.length ≤ 1048576) (hs : IsPairs w a ps) :
 Calls Tryz.prog 78 #[.slice a ps.length cap] w fun e w'=>zva w (zaa ps) ps e w':=by
 have HT:Hid (Tab w):=hT
 clear hT
 by_cases h400:ps.length≤400
 · have h400' : (ps.length : Int) ≤ 400 := by omega
   have hm2:∀ j,j<ps.length→(keyAt ps j).length≤1048576∧(zw ps j).length≤1048576:=fun j h=>by rw[zad ps j h,zbo ps j h];exact hm _ (List.getElem_mem _)
   have HS:Hid (∀ W,Below w.heap.size w W→∀ j,j<ps.length→∃ b off,a=some ⟨b,off,none⟩∧W.cell? ⟨b,off+j*2,none⟩=some (.string ⟨(keyAt ps j).toArray⟩)∧W.cell? ⟨b,off+j*2+1,none⟩=some (.string ⟨(zw ps j).toArray⟩)∧(0<j→W.cell? ⟨b,off+(j - 1)*2,none⟩=some (.string ⟨(keyAt ps (j - 1)).toArray⟩))):=fun W hW j h=>by
    rcases hs.later hW with h' | ⟨b,off,h',hc⟩
    · rw[h'] at h;simp at h
    · refine⟨b,off,h',?_,?_,fun h0=>?_⟩
      · rw[zad ps j h];exact (hc j h).1
      · rw[zbo ps j h];exact (hc j h).2
      · rw[zad ps (j - 1) (by omega)];exact (hc (j - 1) (by omega)).1
   obtain⟨r,hr⟩:∃ r,r=zaa ps:=⟨_,rfl⟩
   have HBAD:Hid (∀ j,j<ps.length→stOk ps j=false→r=false):=fun j h hb=>by rw[hr];exact zru ps j h hb
   have HALL:Hid ((∀ j,j<ps.length→stOk ps j=true)→r=true):=fun h=>by rw[hr];exact zrv ps h400 h
   have M0:Hid (HeldM (w.alloc (.map #[] 0)) w.heap.size ps 0):=zv8 w ps
   have B0:Hid (Below w.heap.size w (w.alloc (.map #[] 0))):=(Below.refl _ _).alloc (Nat.le_refl _) _
   rw[←hr]
   have hmm:=@run_makeMap Tryz.prog
   clear hm hs hr
   go_enter Tryz.func78,Tryz.ntmps78
   go_wp2
   clear hmm
   go_loopw [5,6,7,8,15] (fun _ _ _ _ i wr=>∃ j:Nat,j≤ps.length∧i=.int .i64 (j:Int)∧Hid (∀ q,q<j→stOk ps q=true)∧HeldM wr w.heap.size ps j∧Below w.heap.size w wr) (fun _ _ _ _ i _=>ps.length - (intOf i).toNat)
   case atStart=>exact⟨0,Nat.zero_le _,rfl,fun q hq=>by omega,M0.out,B0.out⟩
   case round =>
    obtain⟨j,hj,rfl,HA,hom,hbel⟩:=hrel
    have hsz:=hbel.size
    by_cases hlt:j<ps.length
    · obtain ⟨b, off, ha, c1, c2, c3⟩ := HS.out wr hbel j hlt
      subst ha
      have m1:=hm2 j hlt
      have hj0:(0:Int)≤(j:Int):=by omega
      have hj1:(j:Int)<(ps.length:Int):=by omega
      have HB:Hid (stOk ps j=false→r=false):=HBAD.out j hlt
      have HN:Hid (stOk ps j=true→∀ q,q<j+1→stOk ps q=true):=fun h q hq=>by
       by_cases e:q=j
       · rw[e];exact h
       · exact HA.out q (by omega)
      have HO2:Hid (stOk ps j=((za1 (zw ps j)).isSome && (sumL (zw ps j) == keyAt ps j) && (decide (j=0) || Op.bytesLess (keyAt ps (j - 1)) (keyAt ps j)))):=rfl
      have HWL:Hid (w.heap.size<wr.heap.size):=hom.lt
      obtain⟨x,hx⟩:∃ x,x=keyAt ps j:=⟨_,rfl⟩
      obtain⟨y,hy⟩:∃ y,y=zw ps j:=⟨_,rfl⟩
      rw[←hx] at c1 m1 HO2
      rw[←hy] at c2 m1 HO2
      have hyl:y.length≤1048576:=m1.2
      have HKR:Hid (∀ W,Calls Tryz.prog 97 #[.string ⟨y.toArray⟩] W fun e w'=>zd3 W (za1 y) e w'):=fun W=>zwv y W hyl
      have Bs:Hid (Below w.heap.size w (wr.alloc (.cells #[.string ⟨x.toArray⟩,.string ⟨y.toArray⟩] 59))):=hbel.alloc hsz _
      have Xs:Hid ((wr.alloc (.cells #[.string ⟨x.toArray⟩,.string ⟨y.toArray⟩] 59)).heap[wr.heap.size]? = some (.cells #[.string ⟨x.toArray⟩,.string ⟨y.toArray⟩] 59 (0,0))):=heap_alloc_new wr _
      have Ms:Hid (HeldM (wr.alloc (.cells #[.string ⟨x.toArray⟩,.string ⟨y.toArray⟩] 59)) w.heap.size ps j):=hom.alloc _
      have HXK:Hid (x=keyAt ps j):=hx
      have HYV:Hid (y=zw ps j):=hy
      have HLT:Hid (j<ps.length):=hlt
      clear hx hy HA HBAD HALL hm2 HS hom M0 B0
      by_cases hz:j=0
      · subst hz
        simp only[Nat.zero_mul,Nat.add_zero] at c1 c2
        have hzb:decide ((0:Int)<((0:Nat):Int))=false:=decide_eq_false (by omega)
        have HPRE:Hid ((decide ((0:Nat)=0) || Op.bytesLess (keyAt ps (0 - 1)) x)=true):=by rw[Hid];simp
        clear c3
        go_wp2
        go_quiet (fail)
        obtain⟨ww,hww⟩:∃ ww,ww=(wr.alloc (.cells #[.string ⟨x.toArray⟩,.string ⟨y.toArray⟩] 59)).drewN nq:=⟨_,rfl⟩
        have B1:Hid (Below w.heap.size w ww):=by rw[Hid,hww];exact zx Bs.out
        have X1:Hid (ww.heap[wr.heap.size]? = some (.cells #[.string ⟨x.toArray⟩,.string ⟨y.toArray⟩] 59 (0,0))):=by rw[Hid,hww];exact Xs.out
        have HOM:Hid (HeldM ww w.heap.size ps 0):=by rw[Hid,hww];exact Ms.out
        have HW1:Hid ((wr.alloc (.cells #[.string ⟨x.toArray⟩,.string ⟨y.toArray⟩] 59)).drewN nq=ww):=hww.symm
        obtain⟨s0,s1,sf⟩:=zb1 X1.out
        rw[HW1.out]
        clear sf hww HW1 c1 c2 Bs Xs Ms
        go_wp2_with fail
        clear s0 s1
        refine (HKR.out _).mono ?_
        rintro e w2 ⟨a4,m4,c4,rfl,o4,b2⟩
        have B2:Hid (Below w.heap.size w w2):=B1.out.trans (b2.mono B1.out.size)
        have X2:Hid (w2.heap[wr.heap.size]? = some (.cells #[.string ⟨x.toArray⟩,.string ⟨y.toArray⟩] 59 (0,0))):=(b2.block wr.heap.size (lt_of_block X1.out)).trans X1.out
        have HWL2:Hid (w.heap.size<w2.heap.size):=Nat.lt_of_lt_of_le (Nat.lt_trans HWL.out (lt_of_block X1.out)) b2.size
        have M2:Hid (HeldM w2 w.heap.size ps 0):=HOM.out.kept (zbw b2 none) trivial
        have O2:Hid (w2.ownsRow (w.heap.size+1) 9 1 (.slice a4 m4 c4) (nodeAt y).ls.length (zh (nodeAt y).ls)):=o4.mono (Nat.lt_trans HWL.out (lt_of_block X1.out))
        obtain⟨nd,hnd⟩:∃ nd,nd=(za1 y).getD zeroN:=⟨_,rfl⟩
        rw[←hnd]
        obtain⟨k,p,ls,v⟩:=nd
        simp only
        have HND:Hid (nodeAt y=⟨k,p,ls,v⟩):=hnd.symm
        have P2:Hid (Below w2.heap.size w2 (w2.alloc (.cells #[.int .i64 k,.string ⟨p.toArray⟩,.slice a4 m4 c4,.string ⟨v.toArray⟩] 152))):=(Below.refl _ _).alloc (Nat.le_refl _) _
        have O2a:Hid ((w2.alloc (.cells #[.int .i64 k,.string ⟨p.toArray⟩,.slice a4 m4 c4,.string ⟨v.toArray⟩] 152)).ownsRow (w.heap.size+1) 9 1 (.slice a4 m4 c4) (nodeAt y).ls.length (zh (nodeAt y).ls)):=zf5 O2.out P2.out
        have B2a:Hid (Below w.heap.size w (w2.alloc (.cells #[.int .i64 k,.string ⟨p.toArray⟩,.slice a4 m4 c4,.string ⟨v.toArray⟩] 152))):=B2.out.trans (P2.out.mono B2.out.size)
        have X2a:Hid ((w2.alloc (.cells #[.int .i64 k,.string ⟨p.toArray⟩,.slice a4 m4 c4,.string ⟨v.toArray⟩] 152)).heap[wr.heap.size]? = some (.cells #[.string ⟨x.toArray⟩,.string ⟨y.toArray⟩] 59 (0,0))):=(P2.out.block wr.heap.size (lt_of_block X2.out)).trans X2.out
        have Y2a:Hid ((w2.alloc (.cells #[.int .i64 k,.string ⟨p.toArray⟩,.slice a4 m4 c4,.string ⟨v.toArray⟩] 152)).heap[w2.heap.size]? = some (.cells #[.int .i64 k,.string ⟨p.toArray⟩,.slice a4 m4 c4,.string ⟨v.toArray⟩] 152 (0,0))):=heap_alloc_new w2 _
        have M2a:Hid (HeldM (w2.alloc (.cells #[.int .i64 k,.string ⟨p.toArray⟩,.slice a4 m4 c4,.string ⟨v.toArray⟩] 152)) w.heap.size ps 0):=M2.out.alloc _
        obtain⟨ok,hok⟩:∃ ok,ok=(za1 y).isSome:=⟨_,rfl⟩
        rw[←hok]
        have HOK:Hid (ok=(za1 y).isSome):=hok
        clear o4 b2 hnd hok O2 X2 M2 B2 P2
        obtain⟨s0,s1,sf⟩:=zb1 X2a.out
        obtain⟨n0,n1,n2,n3,nf⟩:=zi Y2a.out
        clear sf nf
        cases ok with
        | false =>
          have HR:Hid (r=false):=HB.out (by rw[HO2.out,←HOK.out];simp)
          have B2n:Hid (∀ q,Below w.heap.size w ((w2.alloc (.cells #[.int .i64 k,.string ⟨p.toArray⟩,.slice a4 m4 c4,.string ⟨v.toArray⟩] 152)).drewN q)):=fun q=>zx B2a.out
          clear HB HN HO2
          go_wp2
          go_quiet (fail)
          go_wp2
          go_ret2
          rw[HR.out]
          exact⟨rfl,B2n.out _⟩
        | true =>
          have S1:Hid ((w2.alloc (.cells #[.int .i64 k,.string ⟨p.toArray⟩,.slice a4 m4 c4,.string ⟨v.toArray⟩] 152)).drew.cell? ⟨wr.heap.size,0,none⟩=some (.string ⟨x.toArray⟩)∧(w2.alloc (.cells #[.int .i64 k,.string ⟨p.toArray⟩,.slice a4 m4 c4,.string ⟨v.toArray⟩] 152)).drew.cell? ⟨wr.heap.size,1,none⟩=some (.string ⟨y.toArray⟩)):=⟨s0,s1⟩
          have S1L:Hid (wr.heap.size<(w2.alloc (.cells #[.int .i64 k,.string ⟨p.toArray⟩,.slice a4 m4 c4,.string ⟨v.toArray⟩] 152)).heap.size∧w2.heap.size<(w2.alloc (.cells #[.int .i64 k,.string ⟨p.toArray⟩,.slice a4 m4 c4,.string ⟨v.toArray⟩] 152)).heap.size):=⟨lt_of_block X2a.out,lt_of_block Y2a.out⟩
          have TT:Hid (Tab (w2.alloc (.cells #[.int .i64 k,.string ⟨p.toArray⟩,.slice a4 m4 c4,.string ⟨v.toArray⟩] 152)).drew):=(fun h=>(⟨h.1,h.2⟩:Tab (w2.alloc (.cells #[.int .i64 k,.string ⟨p.toArray⟩,.slice a4 m4 c4,.string ⟨v.toArray⟩] 152)).drew)) (HT.out.later B2a.out)
          have KS:=zin y (w2.alloc (.cells #[.int .i64 k,.string ⟨p.toArray⟩,.slice a4 m4 c4,.string ⟨v.toArray⟩] 152)).drew hyl TT.out
          obtain⟨su,hsu⟩:∃ su,su=sumL y:=⟨_,rfl⟩
          have HSU:Hid (su=sumL y):=hsu
          rw[←hsu] at KS
          clear hsu TT
          by_cases he:x=su
          · have heb:(x == su)=true:=by rw[beq_iff_eq];exact he
            have HTR:Hid (stOk ps 0=true):=by rw[Hid,HO2.out,←HOK.out,←HSU.out,←he,HPRE.out];simp
            have HXL:Hid (x.length=32):=by rw[Hid,he,HSU.out];exact zgc y
            have hxx:(⟨x.toArray⟩:ByteArray)=⟨su.toArray⟩:=by rw[he]
            clear s0 s1 n0 n1 n2 n3
            subst he
            go_wp2_with fail
            go_region_held3 (fun w'=>w'.cell? ⟨wr.heap.size,0,none⟩=some (.string ⟨x.toArray⟩)∧w'.cell? ⟨wr.heap.size,1,none⟩=some (.string ⟨y.toArray⟩))
             (first | with_reducible exact S3.out | with_reducible exact S1.out)
             ((go_at_call 98
               with_reducible refine KS.mono ?_
               rintro e w3 ⟨rfl,b3'⟩
               have b3:Below (w2.alloc (.cells #[.int .i64 k,.string ⟨p.toArray⟩,.slice a4 m4 c4,.string ⟨v.toArray⟩] 152)).heap.size (w2.alloc (.cells #[.int .i64 k,.string ⟨p.toArray⟩,.slice a4 m4 c4,.string ⟨v.toArray⟩] 152)) w3:=⟨b3'.os,b3'.tape,b3'.output,b3'.size,b3'.block⟩
               have X3:Hid (w3.heap[wr.heap.size]? = some (.cells #[.string ⟨x.toArray⟩,.string ⟨y.toArray⟩] 59 (0,0))):=(b3.block wr.heap.size S1L.out.1).trans X2a.out
               have Y3:Hid (w3.heap[w2.heap.size]? = some (.cells #[.int .i64 k,.string ⟨p.toArray⟩,.slice a4 m4 c4,.string ⟨v.toArray⟩] 152 (0,0))):=(b3.block w2.heap.size S1L.out.2).trans Y2a.out
               have S3:Hid (w3.cell? ⟨wr.heap.size,0,none⟩=some (.string ⟨x.toArray⟩)∧w3.cell? ⟨wr.heap.size,1,none⟩=some (.string ⟨y.toArray⟩)):=⟨(zb1 X3.out).1,(zb1 X3.out).2.1⟩
               have B3:Hid (Below w.heap.size w w3):=B2a.out.trans (b3.mono B2a.out.size)
               have M3:Hid (HeldM w3 w.heap.size ps 0):=M2a.out.kept (zbw b3 none) trivial
               have O3:Hid (w3.ownsRow (w.heap.size+1) 9 1 (.slice a4 m4 c4) (nodeAt y).ls.length (zh (nodeAt y).ls)):=zf5 O2a.out b3
               clear b3' b3))
            all_goals
             have KK:=zlr x w3.drew HXL.out
             have Sd:Hid (w3.drew.cell? ⟨wr.heap.size,0,none⟩=some (.string ⟨x.toArray⟩)∧w3.drew.cell? ⟨wr.heap.size,1,none⟩=some (.string ⟨y.toArray⟩)∧w3.drew.cell? ⟨w2.heap.size,0,none⟩=some (.int .i64 k)∧w3.drew.cell? ⟨w2.heap.size,1,none⟩=some (.string ⟨p.toArray⟩)∧w3.drew.cell? ⟨w2.heap.size,2,none⟩=some (.slice a4 m4 c4)∧w3.drew.cell? ⟨w2.heap.size,3,none⟩=some (.string ⟨v.toArray⟩)):=⟨(zb1 X3.out).1,(zb1 X3.out).2.1,(zi Y3.out).1,(zi Y3.out).2.1,(zi Y3.out).2.2.1,(zi Y3.out).2.2.2.1⟩
             clear S1 S3 KS X2a Y2a M2a B2a
             go_wp2_with fail
             go_region_held3 (fun w'=>w'.cell? ⟨wr.heap.size,0,none⟩=some (.string ⟨x.toArray⟩)∧w'.cell? ⟨wr.heap.size,1,none⟩=some (.string ⟨y.toArray⟩)∧w'.cell? ⟨w2.heap.size,0,none⟩=some (.int .i64 k)∧w'.cell? ⟨w2.heap.size,1,none⟩=some (.string ⟨p.toArray⟩)∧w'.cell? ⟨w2.heap.size,2,none⟩=some (.slice a4 m4 c4)∧w'.cell? ⟨w2.heap.size,3,none⟩=some (.string ⟨v.toArray⟩))
              (first | with_reducible exact S5.out | with_reducible exact S4.out | with_reducible exact Sd.out)
              ((go_at_call 99
                with_reducible refine KK.mono ?_
                rintro e w4 ⟨rfl,b4'⟩
                have b4:Below w3.heap.size w3 w4:=⟨b4'.os,b4'.tape,b4'.output,b4'.size,b4'.block⟩
                have X4:Hid (w4.heap[wr.heap.size]? = some (.cells #[.string ⟨x.toArray⟩,.string ⟨y.toArray⟩] 59 (0,0))):=(b4.block wr.heap.size (lt_of_block X3.out)).trans X3.out
                have Y4:Hid (w4.heap[w2.heap.size]? = some (.cells #[.int .i64 k,.string ⟨p.toArray⟩,.slice a4 m4 c4,.string ⟨v.toArray⟩] 152 (0,0))):=(b4.block w2.heap.size (lt_of_block Y3.out)).trans Y3.out
                have S4:Hid (w4.cell? ⟨wr.heap.size,0,none⟩=some (.string ⟨x.toArray⟩)∧w4.cell? ⟨wr.heap.size,1,none⟩=some (.string ⟨y.toArray⟩)∧w4.cell? ⟨w2.heap.size,0,none⟩=some (.int .i64 k)∧w4.cell? ⟨w2.heap.size,1,none⟩=some (.string ⟨p.toArray⟩)∧w4.cell? ⟨w2.heap.size,2,none⟩=some (.slice a4 m4 c4)∧w4.cell? ⟨w2.heap.size,3,none⟩=some (.string ⟨v.toArray⟩)):=⟨(zb1 X4.out).1,(zb1 X4.out).2.1,(zi Y4.out).1,(zi Y4.out).2.1,(zi Y4.out).2.2.1,(zi Y4.out).2.2.2.1⟩
                have B4:Hid (Below w.heap.size w w4):=B3.out.trans (b4.mono B3.out.size)
                have M4:=M3.out.kept (zbw b4 none) trivial
                obtain⟨w5,hrun5,hm5,hg5⟩:=M4.update HLT.out (by unfold maxLen;omega) HXK.out HYV.out HXL.out HND.out (zf5 O3.out b4)
                have B5:Hid (Below w.heap.size w w5):=B4.out.grown hg5 B4.out.size (fun q hq=>by simp at hq;omega)
                have M5:Hid (HeldM w5 w.heap.size ps (0+1)):=hm5
                have X5:=(hg5.block wr.heap.size (lt_of_block X4.out) (by simp;have:=HWL.out;omega)).trans X4.out
                have Y5:=(hg5.block w2.heap.size (lt_of_block Y4.out) (by simp;have:=HWL2.out;omega)).trans Y4.out
                have S5:Hid (w5.cell? ⟨wr.heap.size,0,none⟩=some (.string ⟨x.toArray⟩)∧w5.cell? ⟨wr.heap.size,1,none⟩=some (.string ⟨y.toArray⟩)∧w5.cell? ⟨w2.heap.size,0,none⟩=some (.int .i64 k)∧w5.cell? ⟨w2.heap.size,1,none⟩=some (.string ⟨p.toArray⟩)∧w5.cell? ⟨w2.heap.size,2,none⟩=some (.slice a4 m4 c4)∧w5.cell? ⟨w2.heap.size,3,none⟩=some (.string ⟨v.toArray⟩)):=⟨(zb1 X5).1,(zb1 X5).2.1,(zi Y5).1,(zi Y5).2.1,(zi Y5).2.2.1,(zi Y5).2.2.2.1⟩
                clear b4' b4 hm5 hg5 M4 X5 Y5))
             all_goals
              go_wp2
              go_roundw
              case rel=>exact⟨0+1,by omega,by go_num,HN.out HTR.out,M5.out,B5.out⟩
              case measure=>simp[intOf];omega
          · have heb:(x == su)=false:=by rw[beq_eq_false_iff_ne];exact he
            have HR:Hid (r=false):=HB.out (by rw[HO2.out,←HSU.out];have h:(su == x)=false:=(by rw[beq_eq_false_iff_ne];exact fun e=>he e.symm);rw[h];simp)
            clear s0 s1 n0 n1 n2 n3 HB HN HO2
            go_wp2_with fail
            go_region_held3 (fun w'=>w'.cell? ⟨wr.heap.size,0,none⟩=some (.string ⟨x.toArray⟩)∧w'.cell? ⟨wr.heap.size,1,none⟩=some (.string ⟨y.toArray⟩))
             (first | with_reducible exact S3.out | with_reducible exact S1.out)
             ((go_at_call 98
               with_reducible refine KS.mono ?_
               rintro e w3 ⟨rfl,b3'⟩
               have b3:Below (w2.alloc (.cells #[.int .i64 k,.string ⟨p.toArray⟩,.slice a4 m4 c4,.string ⟨v.toArray⟩] 152)).heap.size (w2.alloc (.cells #[.int .i64 k,.string ⟨p.toArray⟩,.slice a4 m4 c4,.string ⟨v.toArray⟩] 152)) w3:=⟨b3'.os,b3'.tape,b3'.output,b3'.size,b3'.block⟩
               have X3:Hid (w3.heap[wr.heap.size]? = some (.cells #[.string ⟨x.toArray⟩,.string ⟨y.toArray⟩] 59 (0,0))):=(b3.block wr.heap.size S1L.out.1).trans X2a.out
               have S3:Hid (w3.cell? ⟨wr.heap.size,0,none⟩=some (.string ⟨x.toArray⟩)∧w3.cell? ⟨wr.heap.size,1,none⟩=some (.string ⟨y.toArray⟩)):=⟨(zb1 X3.out).1,(zb1 X3.out).2.1⟩
               have B3:Hid (Below w.heap.size w w3):=B2a.out.trans (b3.mono B2a.out.size)
               clear b3' b3))
            all_goals
             go_wp2
             go_ret2
             rw[HR.out]
             exact⟨rfl,B3.out⟩
      · obtain ⟨i1, hi1⟩ : ∃ i1, i1 = j - 1 := ⟨_, rfl⟩
        have d1:=c3 (by omega)
        rw[←hi1] at d1 HO2
        have hz':(0:Int)<(j:Int):=by omega
        have hz'':0<j:=by omega
        have hzb:decide ((0:Int)<(j:Int))=true:=by simp;omega
        have hzi:IntKind.i64.wrap ((j:Int) - 1)=(i1:Int):=by rw[zag _ (by omega) (by omega)];omega
        have hzt:((i1:Int)).toNat=i1:=by omega
        have hi2:(j:Int) - 1=(i1:Int):=by omega
        have hi0:(0:Int)≤(i1:Int):=by omega
        have hi3:(i1:Int)<(ps.length:Int):=by omega
        obtain⟨z,hz2⟩:∃ z,z=keyAt ps i1:=⟨_,rfl⟩
        rw[←hz2] at d1 HO2
        have d1a:(wr.alloc (.cells #[.string ⟨x.toArray⟩,.string ⟨y.toArray⟩] 59)).cell? ⟨b,off+i1*2,none⟩=some (.string ⟨z.toArray⟩):=by rw[World.cell?_alloc_lt _ _ _ (World.block_lt_of_cell? wr _ d1)];exact d1
        clear c3 hi1 hz2
        cases q4:Op.bytesLess z x with
        | false =>
          have q4':Op.bytesLess (⟨z.toArray⟩:ByteArray).toList (⟨x.toArray⟩:ByteArray).toList=false:=by rw[zas,zas];exact q4
          have HR:Hid (r=false):=HB.out (by rw[HO2.out,q4];simp[hz])
          have Bn:Hid (∀ q,Below w.heap.size w ((wr.alloc (.cells #[.string ⟨x.toArray⟩,.string ⟨y.toArray⟩] 59)).drewN q)):=fun q=>zx Bs.out
          clear HO2
          go_wp2
          go_quiet (fail)
          go_wp2
          go_ret2
          rw[HR.out]
          exact⟨rfl,Bn.out _⟩
        | true =>
          have q4':Op.bytesLess (⟨z.toArray⟩:ByteArray).toList (⟨x.toArray⟩:ByteArray).toList=true:=by rw[zas,zas];exact q4
          have HQ4:Hid (Op.bytesLess z x=true):=q4
          go_wp2
          go_quiet (fail)
          obtain⟨ww,hww⟩:∃ ww,ww=(wr.alloc (.cells #[.string ⟨x.toArray⟩,.string ⟨y.toArray⟩] 59)).drewN nq:=⟨_,rfl⟩
          have B1:Hid (Below w.heap.size w ww):=by rw[Hid,hww];exact zx Bs.out
          have X1:Hid (ww.heap[wr.heap.size]? = some (.cells #[.string ⟨x.toArray⟩,.string ⟨y.toArray⟩] 59 (0,0))):=by rw[Hid,hww];exact Xs.out
          have HOM:Hid (HeldM ww w.heap.size ps j):=by rw[Hid,hww];exact Ms.out
          have HW1:Hid ((wr.alloc (.cells #[.string ⟨x.toArray⟩,.string ⟨y.toArray⟩] 59)).drewN nq=ww):=hww.symm
          obtain⟨s0,s1,sf⟩:=zb1 X1.out
          rw[HW1.out]
          clear sf hww HW1 c1 c2 d1 d1a Bs Xs Ms
          have HPRE:Hid ((decide (j=0) || Op.bytesLess z x)=true):=by rw[Hid,HQ4.out];simp
          clear q4 q4'
          go_wp2_with fail
          clear s0 s1
          refine (HKR.out _).mono ?_
          rintro e w2 ⟨a4,m4,c4,rfl,o4,b2⟩
          have B2:Hid (Below w.heap.size w w2):=B1.out.trans (b2.mono B1.out.size)
          have X2:Hid (w2.heap[wr.heap.size]? = some (.cells #[.string ⟨x.toArray⟩,.string ⟨y.toArray⟩] 59 (0,0))):=(b2.block wr.heap.size (lt_of_block X1.out)).trans X1.out
          have HWL2:Hid (w.heap.size<w2.heap.size):=Nat.lt_of_lt_of_le (Nat.lt_trans HWL.out (lt_of_block X1.out)) b2.size
          have M2:Hid (HeldM w2 w.heap.size ps j):=HOM.out.kept (zbw b2 none) trivial
          have O2:Hid (w2.ownsRow (w.heap.size+1) 9 1 (.slice a4 m4 c4) (nodeAt y).ls.length (zh (nodeAt y).ls)):=o4.mono (Nat.lt_trans HWL.out (lt_of_block X1.out))
          obtain⟨nd,hnd⟩:∃ nd,nd=(za1 y).getD zeroN:=⟨_,rfl⟩
          rw[←hnd]
          obtain⟨k,p,ls,v⟩:=nd
          simp only
          have HND:Hid (nodeAt y=⟨k,p,ls,v⟩):=hnd.symm
          have P2:Hid (Below w2.heap.size w2 (w2.alloc (.cells #[.int .i64 k,.string ⟨p.toArray⟩,.slice a4 m4 c4,.string ⟨v.toArray⟩] 152))):=(Below.refl _ _).alloc (Nat.le_refl _) _
          have O2a:Hid ((w2.alloc (.cells #[.int .i64 k,.string ⟨p.toArray⟩,.slice a4 m4 c4,.string ⟨v.toArray⟩] 152)).ownsRow (w.heap.size+1) 9 1 (.slice a4 m4 c4) (nodeAt y).ls.length (zh (nodeAt y).ls)):=zf5 O2.out P2.out
          have B2a:Hid (Below w.heap.size w (w2.alloc (.cells #[.int .i64 k,.string ⟨p.toArray⟩,.slice a4 m4 c4,.string ⟨v.toArray⟩] 152))):=B2.out.trans (P2.out.mono B2.out.size)
          have X2a:Hid ((w2.alloc (.cells #[.int .i64 k,.string ⟨p.toArray⟩,.slice a4 m4 c4,.string ⟨v.toArray⟩] 152)).heap[wr.heap.size]? = some (.cells #[.string ⟨x.toArray⟩,.string ⟨y.toArray⟩] 59 (0,0))):=(P2.out.block wr.heap.size (lt_of_block X2.out)).trans X2.out
          have Y2a:Hid ((w2.alloc (.cells #[.int .i64 k,.string ⟨p.toArray⟩,.slice a4 m4 c4,.string ⟨v.toArray⟩] 152)).heap[w2.heap.size]? = some (.cells #[.int .i64 k,.string ⟨p.toArray⟩,.slice a4 m4 c4,.string ⟨v.toArray⟩] 152 (0,0))):=heap_alloc_new w2 _
          have M2a:Hid (HeldM (w2.alloc (.cells #[.int .i64 k,.string ⟨p.toArray⟩,.slice a4 m4 c4,.string ⟨v.toArray⟩] 152)) w.heap.size ps j):=M2.out.alloc _
          obtain⟨ok,hok⟩:∃ ok,ok=(za1 y).isSome:=⟨_,rfl⟩
          rw[←hok]
          have HOK:Hid (ok=(za1 y).isSome):=hok
          clear o4 b2 hnd hok O2 X2 M2 B2 P2
          obtain⟨s0,s1,sf⟩:=zb1 X2a.out
          obtain⟨n0,n1,n2,n3,nf⟩:=zi Y2a.out
          clear sf nf
          cases ok with
          | false =>
            have HR:Hid (r=false):=HB.out (by rw[HO2.out,←HOK.out];simp)
            have B2n:Hid (∀ q,Below w.heap.size w ((w2.alloc (.cells #[.int .i64 k,.string ⟨p.toArray⟩,.slice a4 m4 c4,.string ⟨v.toArray⟩] 152)).drewN q)):=fun q=>zx B2a.out
            clear HB HN HO2
            go_wp2
            go_quiet (fail)
            go_wp2
            go_ret2
            rw[HR.out]
            exact⟨rfl,B2n.out _⟩
          | true =>
            have S1:Hid ((w2.alloc (.cells #[.int .i64 k,.string ⟨p.toArray⟩,.slice a4 m4 c4,.string ⟨v.toArray⟩] 152)).drew.cell? ⟨wr.heap.size,0,none⟩=some (.string ⟨x.toArray⟩)∧(w2.alloc (.cells #[.int .i64 k,.string ⟨p.toArray⟩,.slice a4 m4 c4,.string ⟨v.toArray⟩] 152)).drew.cell? ⟨wr.heap.size,1,none⟩=some (.string ⟨y.toArray⟩)):=⟨s0,s1⟩
            have S1L:Hid (wr.heap.size<(w2.alloc (.cells #[.int .i64 k,.string ⟨p.toArray⟩,.slice a4 m4 c4,.string ⟨v.toArray⟩] 152)).heap.size∧w2.heap.size<(w2.alloc (.cells #[.int .i64 k,.string ⟨p.toArray⟩,.slice a4 m4 c4,.string ⟨v.toArray⟩] 152)).heap.size):=⟨lt_of_block X2a.out,lt_of_block Y2a.out⟩
            have TT:Hid (Tab (w2.alloc (.cells #[.int .i64 k,.string ⟨p.toArray⟩,.slice a4 m4 c4,.string ⟨v.toArray⟩] 152)).drew):=(fun h=>(⟨h.1,h.2⟩:Tab (w2.alloc (.cells #[.int .i64 k,.string ⟨p.toArray⟩,.slice a4 m4 c4,.string ⟨v.toArray⟩] 152)).drew)) (HT.out.later B2a.out)
            have KS:=zin y (w2.alloc (.cells #[.int .i64 k,.string ⟨p.toArray⟩,.slice a4 m4 c4,.string ⟨v.toArray⟩] 152)).drew hyl TT.out
            obtain⟨su,hsu⟩:∃ su,su=sumL y:=⟨_,rfl⟩
            have HSU:Hid (su=sumL y):=hsu
            rw[←hsu] at KS
            clear hsu TT
            by_cases he:x=su
            · have heb:(x == su)=true:=by rw[beq_iff_eq];exact he
              have HTR:Hid (stOk ps j=true):=by rw[Hid,HO2.out,←HOK.out,←HSU.out,←he,HPRE.out];simp
              have HXL:Hid (x.length=32):=by rw[Hid,he,HSU.out];exact zgc y
              have hxx:(⟨x.toArray⟩:ByteArray)=⟨su.toArray⟩:=by rw[he]
              clear s0 s1 n0 n1 n2 n3
              subst he
              go_wp2_with fail
              go_region_held3 (fun w'=>w'.cell? ⟨wr.heap.size,0,none⟩=some (.string ⟨x.toArray⟩)∧w'.cell? ⟨wr.heap.size,1,none⟩=some (.string ⟨y.toArray⟩))
               (first | with_reducible exact S3.out | with_reducible exact S1.out)
               ((go_at_call 98
                 with_reducible refine KS.mono ?_
                 rintro e w3 ⟨rfl,b3'⟩
                 have b3:Below (w2.alloc (.cells #[.int .i64 k,.string ⟨p.toArray⟩,.slice a4 m4 c4,.string ⟨v.toArray⟩] 152)).heap.size (w2.alloc (.cells #[.int .i64 k,.string ⟨p.toArray⟩,.slice a4 m4 c4,.string ⟨v.toArray⟩] 152)) w3:=⟨b3'.os,b3'.tape,b3'.output,b3'.size,b3'.block⟩
                 have X3:Hid (w3.heap[wr.heap.size]? = some (.cells #[.string ⟨x.toArray⟩,.string ⟨y.toArray⟩] 59 (0,0))):=(b3.block wr.heap.size S1L.out.1).trans X2a.out
                 have Y3:Hid (w3.heap[w2.heap.size]? = some (.cells #[.int .i64 k,.string ⟨p.toArray⟩,.slice a4 m4 c4,.string ⟨v.toArray⟩] 152 (0,0))):=(b3.block w2.heap.size S1L.out.2).trans Y2a.out
                 have S3:Hid (w3.cell? ⟨wr.heap.size,0,none⟩=some (.string ⟨x.toArray⟩)∧w3.cell? ⟨wr.heap.size,1,none⟩=some (.string ⟨y.toArray⟩)):=⟨(zb1 X3.out).1,(zb1 X3.out).2.1⟩
                 have B3:Hid (Below w.heap.size w w3):=B2a.out.trans (b3.mono B2a.out.size)
                 have M3:Hid (HeldM w3 w.heap.size ps j):=M2a.out.kept (zbw b3 none) trivial
                 have O3:Hid (w3.ownsRow (w.heap.size+1) 9 1 (.slice a4 m4 c4) (nodeAt y).ls.length (zh (nodeAt y).ls)):=zf5 O2a.out b3
                 clear b3' b3))
              all_goals
               have KK:=zlr x w3.drew HXL.out
               have Sd:Hid (w3.drew.cell? ⟨wr.heap.size,0,none⟩=some (.string ⟨x.toArray⟩)∧w3.drew.cell? ⟨wr.heap.size,1,none⟩=some (.string ⟨y.toArray⟩)∧w3.drew.cell? ⟨w2.heap.size,0,none⟩=some (.int .i64 k)∧w3.drew.cell? ⟨w2.heap.size,1,none⟩=some (.string ⟨p.toArray⟩)∧w3.drew.cell? ⟨w2.heap.size,2,none⟩=some (.slice a4 m4 c4)∧w3.drew.cell? ⟨w2.heap.size,3,none⟩=some (.string ⟨v.toArray⟩)):=⟨(zb1 X3.out).1,(zb1 X3.out).2.1,(zi Y3.out).1,(zi Y3.out).2.1,(zi Y3.out).2.2.1,(zi Y3.out).2.2.2.1⟩
               clear S1 S3 KS X2a Y2a M2a B2a
               go_wp2_with fail
               go_region_held3 (fun w'=>w'.cell? ⟨wr.heap.size,0,none⟩=some (.string ⟨x.toArray⟩)∧w'.cell? ⟨wr.heap.size,1,none⟩=some (.string ⟨y.toArray⟩)∧w'.cell? ⟨w2.heap.size,0,none⟩=some (.int .i64 k)∧w'.cell? ⟨w2.heap.size,1,none⟩=some (.string ⟨p.toArray⟩)∧w'.cell? ⟨w2.heap.size,2,none⟩=some (.slice a4 m4 c4)∧w'.cell? ⟨w2.heap.size,3,none⟩=some (.string ⟨v.toArray⟩))
                (first | with_reducible exact S5.out | with_reducible exact S4.out | with_reducible exact Sd.out)
                ((go_at_call 99
                  with_reducible refine KK.mono ?_
                  rintro e w4 ⟨rfl,b4'⟩
                  have b4:Below w3.heap.size w3 w4:=⟨b4'.os,b4'.tape,b4'.output,b4'.size,b4'.block⟩
                  have X4:Hid (w4.heap[wr.heap.size]? = some (.cells #[.string ⟨x.toArray⟩,.string ⟨y.toArray⟩] 59 (0,0))):=(b4.block wr.heap.size (lt_of_block X3.out)).trans X3.out
                  have Y4:Hid (w4.heap[w2.heap.size]? = some (.cells #[.int .i64 k,.string ⟨p.toArray⟩,.slice a4 m4 c4,.string ⟨v.toArray⟩] 152 (0,0))):=(b4.block w2.heap.size (lt_of_block Y3.out)).trans Y3.out
                  have S4:Hid (w4.cell? ⟨wr.heap.size,0,none⟩=some (.string ⟨x.toArray⟩)∧w4.cell? ⟨wr.heap.size,1,none⟩=some (.string ⟨y.toArray⟩)∧w4.cell? ⟨w2.heap.size,0,none⟩=some (.int .i64 k)∧w4.cell? ⟨w2.heap.size,1,none⟩=some (.string ⟨p.toArray⟩)∧w4.cell? ⟨w2.heap.size,2,none⟩=some (.slice a4 m4 c4)∧w4.cell? ⟨w2.heap.size,3,none⟩=some (.string ⟨v.toArray⟩)):=⟨(zb1 X4.out).1,(zb1 X4.out).2.1,(zi Y4.out).1,(zi Y4.out).2.1,(zi Y4.out).2.2.1,(zi Y4.out).2.2.2.1⟩
                  have B4:Hid (Below w.heap.size w w4):=B3.out.trans (b4.mono B3.out.size)
                  have M4:=M3.out.kept (zbw b4 none) trivial
                  obtain⟨w5,hrun5,hm5,hg5⟩:=M4.update HLT.out (by unfold maxLen;omega) HXK.out HYV.out HXL.out HND.out (zf5 O3.out b4)
                  have B5:Hid (Below w.heap.size w w5):=B4.out.grown hg5 B4.out.size (fun q hq=>by simp at hq;omega)
                  have M5:Hid (HeldM w5 w.heap.size ps (j+1)):=hm5
                  have X5:=(hg5.block wr.heap.size (lt_of_block X4.out) (by simp;have:=HWL.out;omega)).trans X4.out
                  have Y5:=(hg5.block w2.heap.size (lt_of_block Y4.out) (by simp;have:=HWL2.out;omega)).trans Y4.out
                  have S5:Hid (w5.cell? ⟨wr.heap.size,0,none⟩=some (.string ⟨x.toArray⟩)∧w5.cell? ⟨wr.heap.size,1,none⟩=some (.string ⟨y.toArray⟩)∧w5.cell? ⟨w2.heap.size,0,none⟩=some (.int .i64 k)∧w5.cell? ⟨w2.heap.size,1,none⟩=some (.string ⟨p.toArray⟩)∧w5.cell? ⟨w2.heap.size,2,none⟩=some (.slice a4 m4 c4)∧w5.cell? ⟨w2.heap.size,3,none⟩=some (.string ⟨v.toArray⟩)):=⟨(zb1 X5).1,(zb1 X5).2.1,(zi Y5).1,(zi Y5).2.1,(zi Y5).2.2.1,(zi Y5).2.2.2.1⟩
                  clear b4' b4 hm5 hg5 M4 X5 Y5))
               all_goals
                go_wp2
                go_roundw
                case rel=>exact⟨j+1,by omega,by go_num,HN.out HTR.out,M5.out,B5.out⟩
                case measure=>simp[intOf];omega
            · have heb:(x == su)=false:=by rw[beq_eq_false_iff_ne];exact he
              have HR:Hid (r=false):=HB.out (by rw[HO2.out,←HSU.out];have h:(su == x)=false:=(by rw[beq_eq_false_iff_ne];exact fun e=>he e.symm);rw[h];simp)
              clear s0 s1 n0 n1 n2 n3 HB HN HO2
              go_wp2_with fail
              go_region_held3 (fun w'=>w'.cell? ⟨wr.heap.size,0,none⟩=some (.string ⟨x.toArray⟩)∧w'.cell? ⟨wr.heap.size,1,none⟩=some (.string ⟨y.toArray⟩))
               (first | with_reducible exact S3.out | with_reducible exact S1.out)
               ((go_at_call 98
                 with_reducible refine KS.mono ?_
                 rintro e w3 ⟨rfl,b3'⟩
                 have b3:Below (w2.alloc (.cells #[.int .i64 k,.string ⟨p.toArray⟩,.slice a4 m4 c4,.string ⟨v.toArray⟩] 152)).heap.size (w2.alloc (.cells #[.int .i64 k,.string ⟨p.toArray⟩,.slice a4 m4 c4,.string ⟨v.toArray⟩] 152)) w3:=⟨b3'.os,b3'.tape,b3'.output,b3'.size,b3'.block⟩
                 have X3:Hid (w3.heap[wr.heap.size]? = some (.cells #[.string ⟨x.toArray⟩,.string ⟨y.toArray⟩] 59 (0,0))):=(b3.block wr.heap.size S1L.out.1).trans X2a.out
                 have S3:Hid (w3.cell? ⟨wr.heap.size,0,none⟩=some (.string ⟨x.toArray⟩)∧w3.cell? ⟨wr.heap.size,1,none⟩=some (.string ⟨y.toArray⟩)):=⟨(zb1 X3.out).1,(zb1 X3.out).2.1⟩
                 have B3:Hid (Below w.heap.size w w3):=B2a.out.trans (b3.mono B2a.out.size)
                 clear b3' b3))
              all_goals
               go_wp2
               go_ret2
               rw[HR.out]
               exact⟨rfl,B3.out⟩
    · have hjl:j=ps.length:=by omega
      subst hjl
      have HR:Hid (r=true):=HALL.out (fun q h=>HA.out q h)
      have HOM:Hid (HeldM wr w.heap.size ps ps.length):=hom
      clear hom HS hm2
      go_wp2
      go_ret2
      rw[HR.out]
      exact⟨w.heap.size,rfl,HOM.out,Nat.le_refl _,hbel⟩
 · have h400':¬ (ps.length:Int)≤400:=by omega
   have HB:Hid (zaa ps=false):=zrt ps h400
   obtain⟨r,hr⟩:∃ r,r=zaa ps:=⟨_,rfl⟩
   rw[←hr] at HB ⊢
   clear hs hm hr
   go_enter Tryz.func78,Tryz.ntmps78
   go_wp2
   go_ret2
   rw[HB.out]
   exact⟨rfl,Below.refl _ _⟩
end Go.Proofs.YtppljdnbhoeeoaaGreatDoor
