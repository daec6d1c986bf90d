/-
 Texts that are laid as one: MathBT, MathNF, MathTell, MathBk, ApStG, MathSd, MathPd, MathOd.
-/
import Derived.Test.YtiadimhoolekbaaGreatDoorUpdAll
import Derived.Test.YtiadimhoolekbaaGreatDoorIAps
namespace Go.Proofs.YtiadimhoolekbaaGreatDoor
open Go.RowKit
set_option linter.unusedVariables false
set_option maxHeartbeats 4000000
set_option maxRecDepth 100000
theorem zrl:∀ ts:List (List UInt8),(∀ t∈ts,t.length≤60000)→zan (ts.map za5)=some ts
 | [],_=>rfl
 | t :: ts, h => by
   have h1:textOf (za5 t)=some t:=zmc _ t [] (by have:=zlw t [] (h t (by simp));simpa using this)
   have h2:=zrl ts (fun x hx=>h x (by simp[hx]))
   simp only[List.map_cons,zan,h1,h2];rfl
theorem za0r (ts:List (List UInt8)) (h:ts.flatten.length≤30000) (hl:ts.length≤1001):zbb (zac ts)=some ts:=by
 have e:=zqm ts h hl
 have hs:∀ t∈ts,t.length≤60000:=fun t ht=>by
  obtain⟨j,hj,rfl⟩:=List.getElem_of_mem ht
  have:=zew ts j hj
  omega
 rcases za1k (ts.map za5) with ⟨h0,_⟩ | ⟨_,h1⟩
 · rw[e] at h0
   exfalso
   simp[zac,zae] at h0
   split at h0 <;> simp at h0
 · rw[e] at h1
   simp only[zbb,h1]
   exact zrl ts hs
theorem zrm (p:List UInt8) (leaf:Bool) (hq:zo p=true) (hl:p.length≤24):zd4 (pack (zaa p leaf))=some (p,leaf):=by
 have h:=zl9 p leaf
 rw[zd4,if_pos (by omega),zyh p leaf hq]
theorem za0s (k:Int) (p:List UInt8) (ls:List (List UInt8)) (v:List UInt8) (h:zal k p ls v=true):zcm (zbw k p ls v)=⟨k,p,ls,v⟩∧(zbw k p ls v).length≤17∧(zbw k p ls v).flatten.length≤1000:=by
 simp only[zal,zbz,Bool.and_eq_true,decide_eq_true_eq] at h
 obtain⟨⟨hp,hn,hv⟩,hk⟩:=h
 unfold kindOk at hk
 by_cases h1:k=1
 · rw[if_pos h1] at hk
   simp only[Bool.and_eq_true,decide_eq_true_eq] at hk
   have e:ls=[]:=List.length_eq_zero_iff.1 hk.2
   subst h1 e
   have hx:=zl9 p true
   refine⟨?_,by simp[zbw],by simp[zbw];omega⟩
   simp[zbw,zcm,zrm p true hn hp,zc6]
 · rw [if_neg h1] at hk
   by_cases h2:k=2
   · rw[if_pos h2] at hk
     simp only[Bool.and_eq_true,decide_eq_true_eq] at hk
     obtain⟨_,hve,hl,h32⟩:=hk
     have ev:v=[]:=by simpa using hve
     obtain⟨t,rfl⟩:∃ t,ls=[t]:=by
      match ls,hl with
      | [t],_=>exact⟨t,rfl⟩
     subst h2 ev
     have hx:=zl9 p false
     simp only[List.getD_cons_zero] at h32
     refine⟨?_,by simp[zbw],by simp[zbw];omega⟩
     simp[zbw,zcm,zrm p false hn hp,zc6]
   · rw[if_neg h2] at hk
     by_cases h3:k=3
     · rw[if_pos h3] at hk
       simp only[zca,Bool.and_eq_true,decide_eq_true_eq] at hk
       obtain⟨hpe,h16,hkids,_⟩:=hk
       have ep:p=[]:=by simpa using hpe
       subst h3 ep
       have hf:=zl5 ls hkids
       refine⟨?_,by simp[zbw,h16],by simp[zbw];rw[List.length_flatten] at hf;omega⟩
       have e:zbw 3 [] ls v=ls ++ [v]:=by simp[zbw]
       have e1:(ls ++ [v]).take 16=ls:=by rw[←h16];simp
       have e2:(ls ++ [v]).getD 16 []=v:=by rw[List.getD_eq_getElem?_getD,List.getElem?_append_right (by omega)];simp[h16]
       rw[e,zcm,if_pos (by simp[h16]),e1,e2]
     · rw[if_neg h3] at hk
       cases hk
theorem za0t (k:Int) (p:List UInt8) (ls:List (List UInt8)) (v:List UInt8) (h:zal k p ls v=true):za6 (zau k p ls v)=some ⟨k,p,ls,v⟩:=by
 obtain⟨h1,h2,h3⟩:=za0s k p ls v h
 have ht:zbb (zau k p ls v)=some (zbw k p ls v):=by
  rw[zau,if_pos h]
  exact za0r _ (by omega) (by omega)
 rw[za6,ht]
 simp only
 rw[h1]
 exact zj3 _ _ h rfl
structure GE (f:Nat) (es:List za):Prop where
 fits:Fits f es
 small:zcn es
 nib:nibE es
 rise:zbm es
 val:∀ e∈es,e.2≠[]
theorem GE.cut {f:Nat} {es:List za} (h:GE (f+1) es) (hc:0<zj es):GE f (cutE (zj es) es) :=
 ⟨zfr h.fits hc, zl0 h.small, zp3 h.nib, znn h.rise (Nat.le_refl _), fun e he => by
  obtain⟨x,hx,rfl⟩:=List.mem_map.1 he
  exact h.val x hx⟩
theorem GE.grp {f:Nat} {es:List za} (h:GE (f+1) es) (d:Nat):GE f (grp d es) :=
 ⟨zgo h.fits, zjc h.small, zp4 h.nib, zno h.rise, fun e he => by
  obtain⟨x,hx,he⟩:=List.mem_filterMap.1 he
  obtain⟨_,_,_,h3⟩:=zk4 he
  rw[←h3];exact h.val x hx⟩
theorem zrn {es:List za} (h:zbm es):es.Pairwise (fun x y=>x.1<y.1):=h.imp fun {a b} hab=>(zee _ _).1 hab
theorem mem_cons_grp {es:List za} {x:UInt8} {xs v:List UInt8}:(x :: xs,v)∈es↔(xs,v)∈grp x.toNat es:=by
 constructor
 · intro h
   exact List.mem_filterMap.2 ⟨_,h,by simp[grp1]⟩
 · intro h
   obtain⟨e,he,hg⟩:=List.mem_filterMap.1 h
   obtain⟨y,h1,h2,h3⟩:=zk4 hg
   have:y=x:=UInt8.toNat_inj.1 h2
   subst this
   have:e=(y :: xs,v):=Prod.ext h1 h3
   rw[←this];exact he
theorem zro {es:List za} (h:zbm es) (hv:∀ e∈es,e.2≠[]) (v:List UInt8):([],v)∈es↔(endV es=v∧v≠[]):=by
 by_cases h0:es=[]
 · subst h0
   simp[endV]
   try (intro e;exact e.symm)
 · have hl:0<es.length:=List.length_pos_iff.2 h0
   obtain⟨h1,h2⟩:=znp h hl
   constructor
   · intro hm
     obtain⟨k,hk,he⟩:=List.getElem_of_mem hm
     have hk0:k=0:=by
      rcases Nat.eq_zero_or_pos k with h' | h'
      · exact h'
      · exact absurd (by rw[he]) (h1 k hk h')
     subst hk0
     rw[h2,if_pos (by rw[he]),he]
     exact⟨rfl,hv _ hm⟩
   · rintro⟨e1,e2⟩
     rw[h2] at e1
     split at e1
     · rename_i hz
       have:es[0]=([],v):=Prod.ext hz e1
       rw[←this];exact List.getElem_mem _
     · exact absurd e1.symm e2
theorem za0u {es:List za} {n:Nat} (hn:n≤zj es):es=(cutE n es).map fun e=>((zaf es).take n ++ e.1,e.2):=by
 unfold cutE
 rw[List.map_map]
 have:es.map (fun e=>e)=es.map ((fun e=>((zaf es).take n ++ e.1,e.2)) ∘ fun e=>(e.1.drop n,e.2)):=by
  apply List.map_congr_left
  intro e he
  have h1:=znm es n hn e he
  show e=((zaf es).take n ++ e.1.drop n,e.2)
  rw[←h1,List.take_append_drop]
 simpa using this
theorem zm5 {f:Nat} {es:List za} {ns:List za} {t:List UInt8} (h:zi f es=ns ++ [zaw t]):zt (zi f es)=sumL t:=by rw[h,zho];rfl
theorem zrp (f:Nat) (es:List za) (h0:es≠[]) :
 (∃ e,es=[e]∧zi (f+1) es=[] ++ [zaw (zd0 e)]) ∨
 (0<zj es∧2≤es.length∧zi (f+1) es=zi f (cutE (zj es) es) ++ [zaw (zd1 ((zaf es).take (zj es)) (zt (zi f (cutE (zj es) es))))]) ∨
 (¬ 0<zj es∧2≤es.length∧zi (f+1) es=((List.range 16).map fun d=>zi f (grp d es)).flatten ++ [zaw (zcp ((List.range 16).map fun d=>zt (zi f (grp d es))) (endV es))]):=by
 have hl:0<es.length:=List.length_pos_iff.2 h0
 by_cases h1:es.length=1
 · obtain⟨e,rfl⟩:=List.length_eq_one_iff.1 h1
   exact .inl ⟨e,rfl,rfl⟩
 · by_cases hc:0<zj es
   · exact .inr (.inl ⟨hc,by omega,zgm f es (by omega) hc⟩)
   · exact .inr (.inr ⟨hc,by omega,zfq f es (by omega) hc⟩)
theorem zm6 {k:Int} {p:List UInt8} {ls:List (List UInt8)} {v:List UInt8} (h:zal k p ls v=true):nodeAt (zau k p ls v)=⟨k,p,ls,v⟩:=by
 unfold nodeAt;rw[za0t k p ls v h];rfl
theorem zm7 {k:Int} {p:List UInt8} {ls:List (List UInt8)} {v:List UInt8} (h:zal k p ls v=true):zau k p ls v=zac (zbw k p ls v):=by rw[zau,if_pos h]
theorem za0v {f:Nat} {e:za} (h:GE f [e]):zal 1 e.1 [] e.2=true∧zd0 e=zau 1 e.1 [] e.2:=by
 have h1:=h.small e (by simp)
 have h2:=h.nib e (by simp)
 have h3:=h.val e (by simp)
 have hok:zal 1 e.1 [] e.2=true:=by simp[zal,zbz,kindOk,h1.1,h1.2,h2,h3]
 exact⟨hok,by rw[zm7 hok];rfl⟩
theorem za0w {f:Nat} {es:List za} (h:GE (f+1) es) (h0:es≠[]) (hc:0<zj es) (hh:List UInt8) (hl:hh.length=32):zal 2 ((zaf es).take (zj es)) [hh] []=true∧zd1 ((zaf es).take (zj es)) hh=zau 2 ((zaf es).take (zj es)) [hh] []:=by
 obtain⟨e0,es',rfl⟩:∃ e0 es',es=e0 :: es':=by cases es with | nil=>exact absurd rfl h0 | cons e es=>exact⟨e,es,rfl⟩
 have h1:=h.small e0 (by simp)
 have h2:=h.nib e0 (by simp)
 have h3:=zfb (e0 :: es') e0 (by simp)
 have h4:=zp2 e0.1 (zj (e0 :: es')) h2
 have hok:zal 2 ((zaf (e0 :: es')).take (zj (e0 :: es'))) [hh] []=true:=by
  have hlen:((zaf (e0 :: es')).take (zj (e0 :: es'))).length=zj (e0 :: es'):=by simp only[zaf,List.length_take];omega
  have hne:((zaf (e0 :: es')).take (zj (e0 :: es'))).isEmpty=false:=by
   rw[List.isEmpty_eq_false_iff];intro e;rw[e] at hlen;simp at hlen;omega
  have h5:((zaf (e0 :: es')).take (zj (e0 :: es'))).length≤24:=by rw[hlen];omega
  simp only[zal,zbz,kindOk,hne,h5]
  simp[hl]
  exact h4
 exact⟨hok,by rw[zm7 hok];rfl⟩
theorem zrq:∀ (ls:List (List UInt8)),(∀ i (hi:i<ls.length),ls[i]≠[]→1≤zam ls)∧(∀ i j (hi:i<ls.length) (hj:j<ls.length),i<j→ls[i]≠[]→ls[j]≠[]→2≤zam ls)
 | []=>⟨fun i hi=>by simp at hi,fun i j hi=>by simp at hi⟩
 | l :: r => by
   have ih:=zrq r
   have one:l≠[]→oneN l=1:=fun h=>by simp[oneN,h]
   refine⟨fun i hi hne=>?_,fun i j hi hj hij h1 h2=>?_⟩
   · cases i with
     | zero=>have:=one hne;simp only[zam];omega
     | succ i=>have:=ih.1 i (by simpa using hi) (by simpa using hne);simp only[zam];omega
   · cases j with
     | zero=>omega
     | succ j =>
       cases i with
       | zero=>have:=one h1;have:=ih.1 j (by simpa using hj) (by simpa using h2);simp only[zam];omega
       | succ i=>have:=ih.2 i j (by simpa using hi) (by simpa using hj) (by omega) (by simpa using h1) (by simpa using h2);simp only[zam];omega
def zba (f:Nat) (es:List za):List (List UInt8):=(List.range 16).map fun d=>zt (zi f (grp d es))
theorem zcw (f:Nat) (es:List za):(zba f es).length=16:=by simp[zba]
theorem ziz (f:Nat) (es:List za) (d:Nat) (h:d<16):(zba f es)[d]'(by rw[zcw];exact h)=zt (zi f (grp d es)):=by simp[zba]
theorem zm8 {f:Nat} {es:List za} (h:GE (f+1) es) (d:Nat) (hg:grp d es≠[]):zt (zi f (grp d es))≠[]:=fun e=>by
 have:=zia (h.grp d).fits hg
 rw[e] at this;simp at this
theorem za0x {x y:UInt8} {xs ys:List UInt8} (h:lcp (x :: xs) (y :: ys)=0):x≠y:=fun e=>by
 subst e;simp[lcp] at h
theorem zrr:∀ a b:List UInt8,lcp (a.drop (lcp a b)) (b.drop (lcp a b))=0
 | [],b=>by simp[lcp]
 | x :: xs,[]=>by simp[lcp]
 | x :: xs, y :: ys => by
   by_cases e:x=y
   · have:lcp (x :: xs) (y :: ys)=lcp xs ys+1:=by simp[lcp,e]
     rw[this];exact zrr xs ys
   · have:lcp (x :: xs) (y :: ys)=0:=by simp[lcp,e]
     rw[this];simpa using this
theorem zrs {f:Nat} {es:List za} (h:GE (f+1) es) (h2:2≤es.length) (hc:¬ 0<zj es):2≤oneN (endV es)+zam (zba f es):=by
 have hce:=zhr es h2 h.rise
 have hz:lcp (es[0]'(by omega)).1 (es[es.length - 1]'(by omega)).1=0:=by omega
 obtain⟨e1,e2⟩:=znp h.rise (by omega)
 have hlast:=e1 (es.length - 1) (by omega) (by omega)
 have hk:=zrq (zba f es)
 have inG:∀ (k:Nat) (hk:k<es.length) (x:UInt8) (xs:List UInt8),es[k].1=x :: xs→x.toNat<16∧grp x.toNat es≠[]:=fun k hk x xs hx=>by
  have hm:(x :: xs,es[k].2)∈es:=by
   have:es[k]=(x :: xs,es[k].2):=Prod.ext hx rfl
   rw[←this];exact List.getElem_mem _
  refine⟨?_,fun e=>by have:=mem_cons_grp.1 hm;rw[e] at this;simp at this⟩
  have:=h.nib _ hm
  simp[zo] at this
  omega
 obtain⟨y,ys,hy⟩:∃ y ys,(es[es.length - 1]'(by omega)).1=y :: ys:=by
  cases hq:(es[es.length - 1]'(by omega)).1 with
  | nil=>exact absurd hq hlast
  | cons y ys=>exact⟨y,ys,rfl⟩
 obtain⟨hy16,hyg⟩:=inG _ _ y ys hy
 have ny:(zba f es)[y.toNat]'(by rw[zcw];exact hy16)≠[]:=by rw[ziz f es _ hy16];exact zm8 h _ hyg
 cases hq:(es[0]'(by omega)).1 with
 | nil =>
   rw[if_pos hq] at e2
   have hv:endV es≠[]:=by rw[e2];exact h.val _ (List.getElem_mem _)
   have h1:oneN (endV es)=1:=by simp[oneN,hv]
   have:=hk.1 y.toNat (by rw[zcw];exact hy16) ny
   omega
 | cons x xs =>
   obtain⟨hx16,hxg⟩:=inG 0 (by omega) x xs hq
   have nx:(zba f es)[x.toNat]'(by rw[zcw];exact hx16)≠[]:=by rw[ziz f es _ hx16];exact zm8 h _ hxg
   rw[hq,hy] at hz
   have hne:=za0x hz
   have hne':x.toNat≠y.toNat:=fun e=>hne (UInt8.toNat_inj.1 e)
   rcases Nat.lt_or_gt_of_ne hne' with hlt | hlt
   · have:=hk.2 x.toNat y.toNat (by rw[zcw];exact hx16) (by rw[zcw];exact hy16) hlt nx ny
     omega
   · have:=hk.2 y.toNat x.toNat (by rw[zcw];exact hy16) (by rw[zcw];exact hx16) hlt ny nx
     omega
theorem za0y {f:Nat} {es:List za} (h:GE (f+1) es) (h2:2≤es.length) (hc:¬ 0<zj es):zal 3 [] (zba f es) (endV es)=true∧zcp (zba f es) (endV es)=zau 3 [] (zba f es) (endV es):=by
 have hv:=zl1 h.small
 have hk:(zba f es).all zap=true:=by
  rw[List.all_eq_true]
  intro l hl
  obtain⟨d,hd,rfl⟩:=List.mem_map.1 hl
  by_cases hg:grp d es=[]
  · rw[hg,zdb];rfl
  · simp[zap,zia (h.grp d).fits hg]
 have hok:zal 3 [] (zba f es) (endV es)=true:=by
  simp[zal,zbz,kindOk,zca,zcw,hk,zrs h h2 hc,hv,zo]
 exact⟨hok,by rw[zm7 hok];rfl⟩
def zgd (es:List za):List za:=(if endV es=[] then [] else [([],endV es)]) ++ ((List.range 16).map fun d=>(grp d es).map fun e=>(UInt8.ofNat d :: e.1,e.2)).flatten
theorem zj0 (d:Nat) (h:d<16):(UInt8.ofNat d).toNat=d:=by simp;omega
theorem parts_eq {f : Nat} {es : List za} (h : GE f es) : es = zgd es := by
 refine zg4 es (zgd es) (zrn h.rise) ?_ ?_
 · unfold zgd
   refine List.pairwise_append.2 ⟨by split <;> simp,?_,?_⟩
   · rw [List.pairwise_flatten]
     refine⟨fun l hl=>?_,?_⟩
     · obtain⟨d,_,rfl⟩:=List.mem_map.1 hl
       rw[List.pairwise_map]
       exact (zrn (zno h.rise)).imp fun {a b} hab=>by
        show UInt8.ofNat d :: a.1<UInt8.ofNat d :: b.1
        rw[List.cons_lt_cons_iff];exact .inr ⟨rfl,hab⟩
     · rw[List.pairwise_map]
       refine List.pairwise_lt_range.imp_of_mem fun {a b} ha hb hab=>?_
       intro x hx y hy
       obtain⟨x',_,rfl⟩:=List.mem_map.1 hx
       obtain⟨y',_,rfl⟩:=List.mem_map.1 hy
       show UInt8.ofNat a :: x'.1<UInt8.ofNat b :: y'.1
       rw[List.cons_lt_cons_iff]
       left
       rw[UInt8.lt_iff_toNat_lt,zj0 a (List.mem_range.1 ha),zj0 b (List.mem_range.1 hb)]
       exact hab
   · intro x hx y hy
     obtain⟨l,hl,hy1⟩:=List.mem_flatten.1 hy
     obtain⟨d,_,rfl⟩:=List.mem_map.1 hl
     obtain⟨y',_,rfl⟩:=List.mem_map.1 hy1
     split at hx
     · simp at hx
     · simp only[List.mem_singleton] at hx
       subst hx
       exact List.nil_lt_cons _ _
 · intro e
   obtain⟨p,v⟩:=e
   unfold zgd
   rw[List.mem_append,List.mem_flatten]
   cases p with
   | nil =>
     rw[zro h.rise h.val]
     constructor
     · rintro⟨h1,h2⟩
       left
       rw[if_neg (by rw[h1];exact h2),h1]
       simp
     · rintro (hx | ⟨l,hl,hx⟩)
       · split at hx
         · simp at hx
         · rename_i hne
           simp only[List.mem_singleton,Prod.mk.injEq,true_and] at hx
           subst hx
           exact⟨rfl,hne⟩
       · obtain⟨d,_,rfl⟩:=List.mem_map.1 hl
         obtain⟨y,_,hy⟩:=List.mem_map.1 hx
         simp at hy
   | cons x xs =>
     rw[mem_cons_grp]
     constructor
     · intro hm
       have hx16:x.toNat<16:=by
        have:=h.nib _ (mem_cons_grp.2 hm)
        simp[zo] at this
        omega
       right
       refine⟨_,List.mem_map.2 ⟨x.toNat,List.mem_range.2 hx16,rfl⟩,List.mem_map.2 ⟨(xs,v),hm,?_⟩⟩
       simp
     · rintro (hx | ⟨l,hl,hx⟩)
       · split at hx <;> simp at hx
       · obtain⟨d,hd,rfl⟩:=List.mem_map.1 hl
         obtain⟨y,hy,he⟩:=List.mem_map.1 hx
         simp only[Prod.mk.injEq,List.cons.injEq] at he
         obtain⟨⟨h1,h2⟩,h3⟩:=he
         have:x.toNat=d:=by rw[←h1];exact zj0 d (List.mem_range.1 hd)
         rw[this,←h2,←h3];exact hy
theorem back (find : List UInt8 → Option (List UInt8)) : ∀ (f : Nat) (es : List za) (F : Nat) (path : List UInt8), GE f es → es ≠ [] → (∀ x ∈ zi f es, find x.1 = some x.2) → (∀ e ∈ es, e.1.length + 1 ≤ F) → (∀ e ∈ es, path.length + e.1.length ≤ 24 ∧ (path.length + e.1.length) % 2 = 0) →
 atF find F (zt (zi f es)) path=some (es.map fun e=>(pack (path ++ e.1),e.2))
 | 0,es,F,path,h,h0,_,_,_=>by obtain⟨g,hg⟩:=zgp h.fits h0;omega
 | f + 1, es, F, path, h, h0, hf, hF, hp => by
   obtain⟨F',rfl⟩:∃ F',F=F'+1:=by
    obtain⟨e,he⟩:=List.exists_mem_of_ne_nil es h0
    have:=hF e he
    exact⟨F - 1,by omega⟩
   rcases zrp f es h0 with ⟨e,rfl,eb⟩ | ⟨hc,hl,eb⟩ | ⟨hc,hl,eb⟩
   · obtain⟨hk,ht⟩:=za0v h
     have hr:=zm5 eb
     have hfi:find (sumL (zd0 e))=some (zd0 e):=hf (zaw (zd0 e)) (by rw[eb];simp)
     rw[hr,zfw find F' _ path (zd0 e) 1 e.1 e.2 [] hfi (by rw[ht];exact zm6 hk)]
     have hpe:=hp e (by simp)
     have hv:=h.val e (by simp)
     rw[if_pos (by simp only[zb2,List.length_append,Bool.and_eq_true,Bool.or_eq_true,decide_eq_true_eq];exact⟨hpe.1,.inr hpe.2⟩)]
     simp[za7,ownP,hv]
   · have hc1:cutE (zj es) es≠[]:=fun e=>by have:=zci (zj es) es;rw[e] at this;simp at this;omega
     have h32:=zia (h.cut hc).fits hc1
     obtain⟨hk,ht⟩:=za0w h h0 hc _ h32
     have hr:=zm5 eb
     obtain⟨pp,hpp⟩:∃ pp,pp=(zaf es).take (zj es):=⟨_,rfl⟩
     have hplen:pp.length=zj es:=by
      obtain⟨e0,es',rfl⟩:∃ e0 es',es=e0 :: es':=by cases es with | nil=>exact absurd rfl h0 | cons e es=>exact⟨e,es,rfl⟩
      have:=zfb (e0 :: es') e0 (by simp)
      rw[hpp];simp only[zaf,List.length_take];omega
     have hback:=za0u (Nat.le_refl (zj es))
     rw[←hpp] at hk ht hr hback eb
     have hcutlen:∀ e∈cutE (zj es) es,∃ x∈es,x.1.length=zj es+e.1.length:=fun e he=>by
      obtain⟨x,hx,rfl⟩:=List.mem_map.1 he
      have:=zfb es x hx
      exact⟨x,hx,by simp only[List.length_drop];omega⟩
     have hfi:find (sumL (zd1 pp (zt (zi f (cutE (zj es) es)))))=some (zd1 pp (zt (zi f (cutE (zj es) es)))):=hf (zaw _) (by rw[eb];simp)
     have ih:=back find f (cutE (zj es) es) F' (path ++ pp) (h.cut hc) hc1 (fun x hx=>hf x (by rw[eb];exact List.mem_append_left _ hx)) (fun e he=>by
      obtain⟨x,hx,hlx⟩:=hcutlen e he
      have:=hF x hx;omega) (fun e he=>by
      obtain⟨x,hx,hlx⟩:=hcutlen e he
      have:=hp x hx
      rw[List.length_append,hplen]
      have e1:path.length+zj es+e.1.length=path.length+x.1.length:=by omega
      rw[e1];exact this)
     rw[hr,zfw find F' _ path (zd1 pp (zt (zi f (cutE (zj es) es)))) 2 pp [] [zt (zi f (cutE (zj es) es))] hfi (by rw[ht];exact zm6 hk)]
     have hfull:zb2 (path ++ pp) []=true:=by
      obtain⟨e,he⟩:=List.exists_mem_of_ne_nil _ hc1
      obtain⟨x,hx,hlx⟩:=hcutlen e he
      have:=hp x hx
      simp only[zb2,List.length_append,Bool.and_eq_true,Bool.or_eq_true,decide_eq_true_eq]
      exact⟨by omega,by first | exact .inl rfl | exact .inl trivial⟩
     rw[if_pos hfull]
     have hne:zt (zi f (cutE (zj es) es))≠[]:=fun e=>by rw[e] at h32;simp at h32
     have hu:za7 (atF find F') 2 (path ++ pp) [zt (zi f (cutE (zj es) es))] 1=some ((cutE (zj es) es).map fun e=>(pack (path ++ pp ++ e.1),e.2)):=by
      rw[zfc (l:=[]) rfl (by simpa using hne)]
      show Option.map _ (atF find F' (zt (zi f (cutE (zj es) es))) (path ++ pp))=_
      rw[ih];simp
     show Option.map _ (za7 (atF find F') 2 (path ++ pp) [zt (zi f (cutE (zj es) es))] 1)=_
     rw[hu]
     have hm:es.map (fun e=>(pack (path ++ e.1),e.2))=(cutE (zj es) es).map fun e=>(pack (path ++ pp ++ e.1),e.2):=by
      conv=>lhs;rw[hback]
      rw[List.map_map]
      apply List.map_congr_left
      intro e _
      simp[List.append_assoc]
     rw[hm]
     simp[ownP]
   · obtain⟨hk,ht⟩:=za0y h hl hc
     have hr:=zm5 eb
     have hrt:zt (zi (f+1) es)=sumL (zcp (zba f es) (endV es)):=hr
     have hfi:find (sumL (zcp (zba f es) (endV es)))=some (zcp (zba f es) (endV es)):=hf (zaw (zcp (zba f es) (endV es))) (by rw[eb];simp[zba])
     rw[hrt,zfw find F' _ path (zcp (zba f es) (endV es)) 3 [] (endV es) (zba f es) hfi (by rw[ht];exact zm6 hk),List.append_nil]
     have hfull:zb2 path (endV es)=true:=by
      simp only[zb2,Bool.and_eq_true,Bool.or_eq_true,decide_eq_true_eq]
      obtain⟨e,he⟩:=List.exists_mem_of_ne_nil es h0
      refine⟨by have:=(hp e he).1;omega,?_⟩
      by_cases hv:endV es=[]
      · exact .inl hv
      · right
        have hm:=(zro h.rise h.val (endV es)).2 ⟨rfl,hv⟩
        simpa using (hp _ hm).2
     rw[if_pos hfull,zcw]
     have hu : ∀ j, j ≤ 16 → za7 (atF find F') 3 path (zba f es) j = some (((List.range j).map fun d => (grp d es).map fun e => (pack (path ++ UInt8.ofNat d :: e.1), e.2)).flatten) := by
      intro j
      induction j with
      | zero=>intro _;rfl
      | succ j ih =>
        intro hj
        have ihj:=ih (by omega)
        have hat:(zba f es).getD j []=zt (zi f (grp j es)):=by
         rw[List.getD_eq_getElem?_getD,List.getElem?_eq_getElem (by rw[zcw];omega),ziz f es j (by omega)];rfl
        rw[List.range_succ,List.map_append,List.flatten_append,List.map_singleton,List.flatten_singleton]
        by_cases hg:grp j es=[]
        · rw[zkm ihj (by rw[hat,hg,zdb];rfl),hg]
          simp
        · rw[zfc ihj (by rw[hat];exact zm8 h j hg),hat]
          have hmem:∀ e∈grp j es,(UInt8.ofNat j :: e.1,e.2)∈es:=fun e he=>by
           refine mem_cons_grp.2 ?_
           rw[zj0 j (by omega)];exact he
          have ihb:=back find f (grp j es) F' (path ++ [UInt8.ofNat j]) (h.grp j) hg (fun x hx=>hf x (by
           rw[eb]
           exact List.mem_append_left _ (List.mem_flatten.2 ⟨_,List.mem_map.2 ⟨j,List.mem_range.2 (by omega),rfl⟩,hx⟩))) (fun e he=>by
           have:=hF _ (hmem e he)
           simp at this
           omega) (fun e he=>by
           have:=hp _ (hmem e he)
           simp only[List.length_cons] at this
           rw[List.length_append,List.length_singleton]
           have e1:path.length+1+e.1.length=path.length+(e.1.length+1):=by omega
           rw[e1];exact this)
          rw[show zc9 3 path j=path ++ [UInt8.ofNat j] from rfl,ihb]
          simp[List.append_assoc]
     rw[hu 16 (Nat.le_refl _)]
     have hes:=parts_eq h
     have hm:es.map (fun e=>(pack (path ++ e.1),e.2))=ownP path (endV es) ++ ((List.range 16).map fun d=>(grp d es).map fun e=>(pack (path ++ UInt8.ofNat d :: e.1),e.2)).flatten:=by
      conv=>lhs;rw[hes]
      unfold zgd ownP
      rw[List.map_append,List.map_flatten,List.map_map]
      congr 1
      · split <;> simp
      · congr 1
        apply List.map_congr_left
        intro d _
        simp[List.map_map]
     rw[hm];rfl
theorem za0z {es:List za} (h2:2≤es.length) (hr:zbm es):zj (cutE (zj es) es)=0:=by
 have h1:=zhr es h2 hr
 have h3:=zhr (cutE (zj es) es) (by rw[zci];exact h2) (znn hr (Nat.le_refl _))
 rw[h3]
 simp only[zci]
 have a0:((cutE (zj es) es)[0]'(by rw[zci];omega)).1=(es[0]'(by omega)).1.drop (zj es):=by simp[cutE]
 have a1:((cutE (zj es) es)[es.length - 1]'(by rw[zci];omega)).1=(es[es.length - 1]'(by omega)).1.drop (zj es):=by simp[cutE]
 rw[a0,a1,h1]
 exact zrr _ _
theorem za10 (f:Nat) (es:List za) (h:GE (f+1) es) (ih:∀ d,grp d es≠[]→(zi f (grp d es)).length+2≤3*(grp d es).length):∀ j,j≤16→(((List.range j).map fun d=>zi f (grp d es)).flatten).length+2*zam ((zba f es).take j)≤3*(((List.range j).map fun d=>(grp d es).map fun e=>(UInt8.ofNat d :: e.1,e.2)).flatten).length:=by
 intro j
 induction j with
 | zero=>intro _;simp[zam]
 | succ j ihj =>
   intro hj
   have h1:=ihj (by omega)
   have hk:=zl4 (zba f es) j (by rw[zcw];omega)
   rw[ziz f es j (by omega)] at hk
   rw[hk,List.range_succ,List.map_append,List.flatten_append,List.map_singleton,List.flatten_singleton,List.length_append,List.map_append,List.flatten_append,List.map_singleton,List.flatten_singleton,List.length_append,List.length_map]
   by_cases hg:grp j es=[]
   · have:oneN (zt (zi f (grp j es)))=0:=by rw[hg,zdb];rfl
     rw[this,hg,zdb]
     simp only[List.length_nil]
     omega
   · have h2:=ih j hg
     have h3:oneN (zt (zi f (grp j es)))≤1:=by unfold oneN;split <;> omega
     omega
theorem zm9:∀ (f:Nat) (es:List za),GE f es→es≠[]→(zi f es).length+2≤3*es.length∧(¬ 0<zj es→2≤es.length→(zi f es).length+3≤3*es.length)
 | 0,es,h,h0=>by obtain⟨g,hg⟩:=zgp h.fits h0;omega
 | f + 1, es, h, h0 => by
   rcases zrp f es h0 with ⟨e,rfl,eb⟩ | ⟨hc,hl,eb⟩ | ⟨hc,hl,eb⟩
   · rw[eb];simp
   · have hc1:cutE (zj es) es≠[]:=fun e=>by have:=zci (zj es) es;rw[e] at this;simp at this;omega
     have ih:=(zm9 f _ (h.cut hc) hc1).2 (by rw[za0z hl h.rise];omega) (by rw[zci];exact hl)
     rw[zci] at ih
     rw[eb]
     simp only[List.length_append,List.length_singleton]
     exact⟨by omega,fun hn=>absurd hc hn⟩
   · have h2:=zrs h hl hc
     have hs:=za10 f es h (fun d hg=>(zm9 f _ (h.grp d) hg).1) 16 (Nat.le_refl _)
     rw[List.take_of_length_le (by rw[zcw];exact Nat.le_refl _)] at hs
     have hlen:es.length=oneN (endV es)+(((List.range 16).map fun d=>(grp d es).map fun e=>(UInt8.ofNat d :: e.1,e.2)).flatten).length:=by
      conv=>lhs;rw[parts_eq h]
      unfold zgd
      rw[List.length_append]
      congr 1
      unfold oneN
      by_cases hv:endV es=[]
      · simp[hv]
      · simp[hv]
     have h1:oneN (endV es)≤1:=by unfold oneN;split <;> omega
     rw[eb]
     simp only[List.length_append,List.length_singleton]
     exact⟨by omega,fun _ _=>by omega⟩
theorem zru (ps:List za) (h:zq ps=true):GE 60 (esOf ps):=by
 have hfit:=zcy ps h
 refine⟨zhj hfit,zjg hfit,fun e he=>?_,zq7 ps h,fun e he=>?_⟩
 · obtain⟨x,_,rfl⟩:=List.mem_map.1 he
   exact zq5 _
 · obtain⟨x,hx,rfl⟩:=List.mem_map.1 he
   obtain⟨i,hi,rfl⟩:=List.getElem_of_mem hx
   unfold zq at h
   rw[Bool.and_eq_true,List.all_eq_true] at h
   have:=h.2 i (List.mem_range.2 hi)
   unfold okAt at this
   rw[zld ps i hi] at this
   simp only[Bool.and_eq_true,decide_eq_true_iff] at this
   intro e
   have h1:=this.1.1.2
   simp only at e
   rw[e] at h1
   simp at h1
theorem za11 {ps:List za} (h:zy ps=true) {x:za} (hx:x∈allL ps):x∈za2 ps:=by
 have hm:zah (allL ps)=true:=by simp only[zy,Bool.and_eq_true] at h;exact h.2
 have hg:=(zih _).1 hm
 obtain⟨s1,s2,s3⟩:=zcj (allL ps)
 rw[za2,if_pos h]
 obtain⟨y,hy,he⟩:=s3 x hx
 have:=hg.2 y (s2 y hy) x hx he
 rw[←this];exact hy
theorem za12 {ps:List za} (h:zy ps=true) (h0:ps≠[]):zab ps=zt (allL ps)∧zab ps≠emptyL:=by
 obtain⟨nn,tt,hall⟩:=zq8 ps h0
 have hna:allL ps≠[]:=by rw[hall];simp
 have e1:zab ps=zt (allL ps):=by rw[zab,if_pos h,zbt,if_neg hna]
 refine⟨e1,?_⟩
 have hm:zah (allL ps)=true:=by simp only[zy,Bool.and_eq_true] at h;exact h.2
 have hg:=(zih _).1 hm
 rw[e1,hall,zho]
 exact hg.1 (zaw tt) (by rw[hall];simp)
theorem za13 {l:List za} (h:zy l=true):zq l=true∧za2 l=zl (allL l)∧(za2 l).length≤3*l.length∧(za2 l).Pairwise (fun x y=>x.1<y.1)∧(∀ x∈za2 l,x∈allL l):=by
 have hp:zq l=true:=by simp only[zy,Bool.and_eq_true] at h;exact h.1
 obtain⟨s1,s2,s3⟩:=zcj (allL l)
 have e:za2 l=zl (allL l):=by rw[za2,if_pos h]
 refine⟨hp,e,?_,by rw[e];exact s1,fun x hx=>s2 x (by rw[←e];exact hx)⟩
 have hlen:=zf5 (allL l) (allL l).length (Nat.le_refl _)
 rw[List.take_length] at hlen
 rw[e]
 by_cases h0:l=[]
 · subst h0
   have ea:allL []=[]:=zdb 60
   rw[ea] at hlen ⊢
   simpa using hlen
 · have hne:esOf l≠[]:=fun e=>h0 (by have:=zdw l;rw[e] at this;exact List.length_eq_zero_iff.1 this.symm)
   have:=(zm9 60 (esOf l) (zru l hp) hne).1
   rw[zdw] at this
   have e2:(allL l).length=(zi 60 (esOf l)).length:=rfl
   omega
theorem za14 {l T:List za} (h:zy l=true) (hT:zu T=true) (hsub:∀ x∈allL l,zh T x.1=some x.2):zag T (zab l)=some l:=by
 obtain⟨hp,e,h3,hr,hm⟩:=za13 h
 by_cases h0:l=[]
 · subst h0
   have ea:allL []=[]:=zdb 60
   exact zkq hT (by rw[zab,if_pos h,ea,zbt,if_pos rfl])
 · obtain⟨hroot,hne⟩:=za12 h h0
   have hes:esOf l≠[]:=fun e=>h0 (by have:=zdw l;rw[e] at this;exact List.length_eq_zero_iff.1 this.symm)
   have hfit:=zcy l hp
   have hlen:∀ e∈esOf l,e.1.length≤24∧e.1.length % 2=0:=fun e he=>by
    obtain⟨x,hx,rfl⟩:=List.mem_map.1 he
    have:=(hfit.2 x hx).1
    simp only[zjf]
    omega
   have hb:=back (zh T) 60 (esOf l) 26 [] (zru l hp) hes hsub (fun e he=>by have:=hlen e he;omega) (fun e he=>by simpa using hlen e he)
   have hl:(esOf l).map (fun e=>(pack ([] ++ e.1),e.2))=l:=by
    unfold esOf
    rw[List.map_map]
    conv=>rhs;rw[←List.map_id l]
    apply List.map_congr_left
    intro x _
    simp[zpv]
   rw[hl] at hb
   have hroot':zab l=zt (zi 60 (esOf l)):=hroot
   rw[←hroot'] at hb
   rw[zkr hT hne hb,if_pos ⟨h,rfl⟩]
def stR (ps:List za) (root:List UInt8) (c n:Int) (os:List OpL):Option (List za × List UInt8):=(zag ps root).bind fun l=>if zat l c n os=true then zbv ps (zb6 l c n os) else none
theorem za15 {w:World} {base e:Nat} {a:Option Addr} {m cap k:Nat} {xs:List Value} (h:w.ownsRow base e 2 (.slice a m cap) k xs):a=none→cap=0:=by
 rcases zcb h with ⟨hv,_,_⟩ | ⟨g,cap',hv,_⟩ <;> cases hv <;> simp
theorem zrv {l:List za} {c n:Int} {os:List OpL} (h:zat l c n os=true):fitP (zb6 l c n os):=by
 rw[zgs h]
 simp only[zat,Bool.and_eq_true] at h
 exact zcy _ h.2.2
theorem za16 (a:Option Addr) (cap:Nat) (ps:List za) (root:List UInt8) (c n:Int) (b:Option Addr) (cb:Nat) (os:List OpL) (w:World) (hT:Tab w) (hl:ps.length≤1048576) (hm:∀ p∈ps,p.1.length≤1048576∧p.2.length≤1048576) (hs:IsPairs w a ps) (hr:root.length≤1048576) (hl2:os.length≤1048576) (hm2:∀ p∈os,p.1.length≤1048576∧p.2.1.length≤1048576) (hs2:IsOps w b os) :
 Calls Tryz.prog 6 #[.slice a ps.length cap,.string ⟨root.toArray⟩,.agg #[.int .i64 c,.int .i64 n,.slice b os.length cb]] w fun e w'=>UPost w (stR ps root c n os) e w':=by
 have B0:Below w.heap.size w (w.alloc (.cells #[.int .i64 c,.int .i64 n,.slice b os.length cb] 27)):=(Below.refl _ _).alloc (Nat.le_refl _) _
 have H0:=heap_alloc_new w (.cells #[.int .i64 c,.int .i64 n,.slice b os.length cb] 27)
 have HQ:Hid (∀ W,Below (w.heap.size+1) (w.alloc (.cells #[.int .i64 c,.int .i64 n,.slice b os.length cb] 27)) W→W.heap[w.heap.size]? = some (.cells #[.int .i64 c,.int .i64 n,.slice b os.length cb] 27 (0,0))):=fun W hW=>(hW.block w.heap.size (by omega)).trans H0
 obtain⟨w0,hw0⟩:∃ w0,w0=w.alloc (.cells #[.int .i64 c,.int .i64 n,.slice b os.length cb] 27):=⟨_,rfl⟩
 have hsz0:w0.heap.size=w.heap.size+1:=by rw[hw0];simp
 have HS:Hid (∀ W,Below w0.heap.size w0 W→IsPairs W a ps):=fun W hW=>by rw[hw0] at hW;exact hs.later (B0.trans (hW.mono (by simp)))
 have HS2:Hid (∀ W,Below w0.heap.size w0 W→IsOps W b os):=fun W hW=>by rw[hw0] at hW;exact hs2.later (B0.trans (hW.mono (by simp)))
 have HB0:Hid (Below w.heap.size w w0):=by rw[hw0];exact B0
 have HC0:Hid (∀ W,Below w0.heap.size w0 W→W.cell? ⟨w.heap.size,0,none⟩=some (.int .i64 c)∧W.cell? ⟨w.heap.size,1,none⟩=some (.int .i64 n)∧W.cell? ⟨w.heap.size,2,none⟩=some (.slice b os.length cb)):=fun W hW=>by
  obtain⟨h1,h2,h3,_⟩:=zb7 (HQ.out W (by rw[hsz0,hw0] at hW;exact hW))
  exact⟨h1,h2,h3⟩
 have K1:=zmh a cap ps root w0 (hT.later HB0.out) hl hm (HS.out w0 (Below.refl _ _)) hr
 have HT:Hid (∀ W,Below w0.heap.size w0 W→Tab W):=fun W hW=>(hT.later HB0.out).later hW
 have HM2:Hid (∀ p∈os,p.1.length≤1048576∧p.2.1.length≤1048576):=hm2
 have HPO:Hid (∀ l,zag ps root=some l→zq l=true):=fun l h=>znq h
 have HRN:Hid (zag ps root=none→stR ps root c n os=none):=fun h=>by unfold stR;rw[h];rfl
 have HRS:Hid (∀ l,zag ps root=some l→stR ps root c n os=if zat l c n os=true then zbv ps (zb6 l c n os) else none):=fun l h=>by unfold stR;rw[h];rfl
 have HKT:Hid (∀ (a2:Option Addr) (c2:Nat) (l:List za) W,Below w0.heap.size w0 W→Tab W→l.length≤1048576→(∀ p∈l,p.1.length≤1048576∧p.2.length≤1048576)→IsPairs W a2 l→Calls Tryz.prog 16 #[.slice a ps.length cap,.slice a2 l.length c2] W fun e w'=>UPost W (zbv ps l) e w'):=fun a2 c2 l W hW hTW h1 h2 h3=>za5p a cap ps a2 c2 l W hTW hl hm (HS.out W hW) h1 h2 h3
 unfold zf0 at K1
 obtain⟨pr,hpr⟩:∃ pr,pr=zag ps root:=⟨_,rfl⟩
 obtain⟨res,hres⟩:∃ res,res=stR ps root c n os:=⟨_,rfl⟩
 rw[←hpr] at K1 HPO HRN HRS
 rw[←hres] at HRN HRS ⊢
 clear hpr hres hs hm hs2 hm2 B0 H0 HQ hT
 cases pr with
 | none =>
   have HN:Hid (res=none):=HRN.out rfl
   clear HRS HRN HPO HKT
   go_enter Tryz.func6,Tryz.ntmps6
   go_wp2_with fail
   rw[←hw0]
   refine K1.mono ?_
   rintro e w1 ⟨a1,m1,c1,rfl,o1,b1⟩
   have B1:=HB0.out.trans (b1.mono HB0.out.size)
   clear o1 b1 K1
   go_wp2
   go_ret3
   exact zeg HN.out B1
 | some l =>
   simp only[Option.getD_some,Option.isSome_some] at K1
   have hlf:=zcy l (HPO.out l rfl)
   have hlm:∀ p∈l,p.1.length≤1048576∧p.2.length≤1048576:=fun p hp=>by have:=hlf.2 p hp;omega
   have hl60:=hlf.1
   have HR:Hid (res=if zat l c n os=true then zbv ps (zb6 l c n os) else none):=HRS.out l rfl
   have HKA:Hid (∀ (a1:Option Addr) (c1:Nat) w1,Below w0.heap.size w0 w1→w1.ownsRow w0.heap.size 61 2 (.slice a1 l.length c1) l.length (zc l)→Calls Tryz.prog 9 #[.slice a1 l.length c1,.agg #[.int .i64 c,.int .i64 n,.slice b os.length cb]] w1 fun e w'=>zeh w1 (zat l c n os) (zb6 l c n os) e w'):=fun a1 c1 w1 b1 o1=>by
    have i1:=(za8 o1).2.2
    exact zpb a1 c1 l c n b cb os w1 (by omega) hlm i1 hl2 HM2.out (HS2.out w1 b1)
   have HF:Hid (zat l c n os=true→fitP (zb6 l c n os)):=zrv
   obtain⟨ok,hok⟩:∃ ok,ok=zat l c n os:=⟨_,rfl⟩
   obtain⟨rs,hrs⟩:∃ rs,rs=zb6 l c n os:=⟨_,rfl⟩
   rw[←hok,←hrs] at HR HKA HF
   unfold zeh at HKA
   clear hok hrs hlm hl60 hlf HRS HRN HPO HS HS2 HM2
   go_enter Tryz.func6,Tryz.ntmps6
   go_wp2_with fail
   rw[←hw0]
   refine K1.mono ?_
   rintro e w1 ⟨a1,m1,c1,rfl,o1,b1⟩
   obtain⟨rfl,_,_⟩:=za8 o1
   have K2:=HKA.out a1 c1 w1 b1 o1
   obtain⟨q0,q1,q2⟩:=HC0.out w1 b1
   have HB1:Hid (Below w0.heap.size w0 w1):=b1
   clear K1 HKA o1 b1
   go_wp2_with fail
   refine K2.mono ?_
   rintro e w2 ⟨a2,m2,c2,rfl,o2,b2⟩
   have B2:=HB1.out.trans (b2.mono HB1.out.size)
   obtain⟨rfl,_,i2⟩:=za8 o2
   cases ok with
   | false =>
     have HN:Hid (res=none):=HR.out.trans (if_neg (fun h=>by simp at h))
     have BB:=HB0.out.trans (B2.mono HB0.out.size)
     clear HR o2 i2 K2 HKT b2 B2 q0 q1 q2
     go_wp2
     go_ret3
     exact zeg HN.out BB
   | true =>
     have HN:Hid (res=zbv ps rs):=HR.out.trans (if_pos rfl)
     have hf:=HF.out rfl
     have K3:=HKT.out a2 c2 rs w2 B2 (HT.out w2 B2) (by have:=hf.1;omega) (fun p hp=>by have:=hf.2 p hp;omega) i2
     unfold UPost at K3
     obtain⟨tr,htr⟩:∃ tr,tr=zbv ps rs:=⟨_,rfl⟩
     rw[←htr] at K3 HN
     have HB2:Hid (Below w.heap.size w w2):=HB0.out.trans (B2.mono HB0.out.size)
     clear HR o2 i2 K2 HKT b2 B2 q0 q1 q2 hf htr
     go_wp2_with fail
     refine K3.mono ?_
     rintro e w3 ⟨a3,m3,c3,rfl,o3,b3⟩
     have B3:=HB2.out.trans (b3.mono HB2.out.size)
     have O3:=zf (o3.mono HB2.out.size)
     clear o3 b3 K3
     go_wp2
     go_ret3
     rw[HN.out]
     exact⟨a3,m3,c3,rfl,O3.out,B3⟩
theorem za17 (a:Option Addr) (cap:Nat) (ps:List za) (root:List UInt8) (c n:Int) (b:Option Addr) (cb:Nat) (os:List OpL) (w:World) (hl:ps.length≤1048576) (hm:∀ p∈ps,p.1.length≤1048576∧p.2.length≤1048576) (hs:IsPairs w a ps) (hl2:os.length≤1048576) (hm2:∀ p∈os,p.1.length≤1048576∧p.2.1.length≤1048576) (hs2:IsOps w b os) (hca:a=none→cap=0) :
 Calls Tryz.prog 7 #[.slice a ps.length cap,.string ⟨root.toArray⟩,.agg #[.int .i64 c,.int .i64 n,.slice b os.length cb]] w fun e w'=>UPost w (stR ps root c n os) e w':=by
 have B0:Below w.heap.size w (w.alloc (.cells #[.int .i64 c,.int .i64 n,.slice b os.length cb] 27)):=(Below.refl _ _).alloc (Nat.le_refl _) _
 have H0:=heap_alloc_new w (.cells #[.int .i64 c,.int .i64 n,.slice b os.length cb] 27)
 have HQ:Hid (∀ W,Below (w.heap.size+1) (w.alloc (.cells #[.int .i64 c,.int .i64 n,.slice b os.length cb] 27)) W→W.heap[w.heap.size]? = some (.cells #[.int .i64 c,.int .i64 n,.slice b os.length cb] 27 (0,0))):=fun W hW=>(hW.block w.heap.size (by omega)).trans H0
 obtain⟨w0,hw0⟩:∃ w0,w0=w.alloc (.cells #[.int .i64 c,.int .i64 n,.slice b os.length cb] 27):=⟨_,rfl⟩
 have hsz0:w0.heap.size=w.heap.size+1:=by rw[hw0];simp
 have HS:Hid (∀ W,Below w0.heap.size w0 W→IsPairs W a ps):=fun W hW=>by rw[hw0] at hW;exact hs.later (B0.trans (hW.mono (by simp)))
 have HS2:Hid (∀ W,Below w0.heap.size w0 W→IsOps W b os):=fun W hW=>by rw[hw0] at hW;exact hs2.later (B0.trans (hW.mono (by simp)))
 have HB0:Hid (Below w.heap.size w w0):=by rw[hw0];exact B0
 have HC0:Hid (∀ W,Below w0.heap.size w0 W→W.cell? ⟨w.heap.size,0,none⟩=some (.int .i64 c)∧W.cell? ⟨w.heap.size,1,none⟩=some (.int .i64 n)∧W.cell? ⟨w.heap.size,2,none⟩=some (.slice b os.length cb)):=fun W hW=>by
  obtain⟨h1,h2,h3,_⟩:=zb7 (HQ.out W (by rw[hsz0,hw0] at hW;exact hW))
  exact⟨h1,h2,h3⟩
 have K1:=za22 a cap ps root w0 hl hm (HS.out w0 (Below.refl _ _))
 have HM2:Hid (∀ p∈os,p.1.length≤1048576∧p.2.1.length≤1048576):=hm2
 have HPO:Hid (∀ l,zag ps root=some l→zq l=true):=fun l h=>znq h
 have HRN:Hid (zag ps root=none→stR ps root c n os=none):=fun h=>by unfold stR;rw[h];rfl
 have HRS:Hid (∀ l,zag ps root=some l→stR ps root c n os=if zat l c n os=true then zbv ps (zb6 l c n os) else none):=fun l h=>by unfold stR;rw[h];rfl
 have HKT:Hid (∀ (a2:Option Addr) (c2:Nat) (l:List za) W,Below w0.heap.size w0 W→l.length≤1048576→(∀ p∈l,p.1.length≤1048576∧p.2.length≤1048576)→IsPairs W a2 l→Calls Tryz.prog 19 #[.slice a ps.length cap,.slice a2 l.length c2] W fun e w'=>UPost W (zbv ps l) e w'):=fun a2 c2 l W hW h1 h2 h3=>za5r a cap ps a2 c2 l W hl hm (HS.out W hW) h1 h2 h3 hca
 unfold zf0 at K1
 obtain⟨pr,hpr⟩:∃ pr,pr=zag ps root:=⟨_,rfl⟩
 obtain⟨res,hres⟩:∃ res,res=stR ps root c n os:=⟨_,rfl⟩
 rw[←hpr] at K1 HPO HRN HRS
 rw[←hres] at HRN HRS ⊢
 clear hpr hres hs hm hs2 hm2 B0 H0 HQ
 cases pr with
 | none =>
   have HN:Hid (res=none):=HRN.out rfl
   clear HRS HRN HPO HKT
   go_enter Tryz.func7,Tryz.ntmps7
   go_wp2_with fail
   rw[←hw0]
   refine K1.mono ?_
   rintro e w1 ⟨a1,m1,c1,rfl,o1,b1⟩
   have B1:=HB0.out.trans (b1.mono HB0.out.size)
   clear o1 b1 K1
   go_wp2
   go_ret3
   exact zeg HN.out B1
 | some l =>
   simp only[Option.getD_some,Option.isSome_some] at K1
   have hlf:=zcy l (HPO.out l rfl)
   have hlm:∀ p∈l,p.1.length≤1048576∧p.2.length≤1048576:=fun p hp=>by have:=hlf.2 p hp;omega
   have hl60:=hlf.1
   have HR:Hid (res=if zat l c n os=true then zbv ps (zb6 l c n os) else none):=HRS.out l rfl
   have HKA:Hid (∀ (a1:Option Addr) (c1:Nat) w1,Below w0.heap.size w0 w1→w1.ownsRow w0.heap.size 61 2 (.slice a1 l.length c1) l.length (zc l)→Calls Tryz.prog 18 #[.slice a1 l.length c1,.agg #[.int .i64 c,.int .i64 n,.slice b os.length cb]] w1 fun e w'=>zeh w1 (zat l c n os) (zb6 l c n os) e w'):=fun a1 c1 w1 b1 o1=>by
    have i1:=(za8 o1).2.2
    exact zv8 a1 c1 l c n b cb os w1 (by omega) hlm i1 (za15 o1) hl2 HM2.out (HS2.out w1 b1)
   have HF:Hid (zat l c n os=true→fitP (zb6 l c n os)):=zrv
   obtain⟨ok,hok⟩:∃ ok,ok=zat l c n os:=⟨_,rfl⟩
   obtain⟨rs,hrs⟩:∃ rs,rs=zb6 l c n os:=⟨_,rfl⟩
   rw[←hok,←hrs] at HR HKA HF
   unfold zeh at HKA
   clear hok hrs hlm hl60 hlf HRS HRN HPO HS HS2 HM2
   go_enter Tryz.func7,Tryz.ntmps7
   go_wp2_with fail
   rw[←hw0]
   refine K1.mono ?_
   rintro e w1 ⟨a1,m1,c1,rfl,o1,b1⟩
   obtain⟨rfl,_,_⟩:=za8 o1
   have K2:=HKA.out a1 c1 w1 b1 o1
   obtain⟨q0,q1,q2⟩:=HC0.out w1 b1
   have HB1:Hid (Below w0.heap.size w0 w1):=b1
   clear K1 HKA o1 b1
   go_wp2_with fail
   refine K2.mono ?_
   rintro e w2 ⟨a2,m2,c2,rfl,o2,b2⟩
   have B2:=HB1.out.trans (b2.mono HB1.out.size)
   obtain⟨rfl,_,i2⟩:=za8 o2
   cases ok with
   | false =>
     have HN:Hid (res=none):=HR.out.trans (if_neg (fun h=>by simp at h))
     have BB:=HB0.out.trans (B2.mono HB0.out.size)
     clear HR o2 i2 K2 HKT b2 B2 q0 q1 q2
     go_wp2
     go_ret3
     exact zeg HN.out BB
   | true =>
     have HN:Hid (res=zbv ps rs):=HR.out.trans (if_pos rfl)
     have hf:=HF.out rfl
     have K3:=HKT.out a2 c2 rs w2 B2 (by have:=hf.1;omega) (fun p hp=>by have:=hf.2 p hp;omega) i2
     unfold UPost at K3
     obtain⟨tr,htr⟩:∃ tr,tr=zbv ps rs:=⟨_,rfl⟩
     rw[←htr] at K3 HN
     have HB2:Hid (Below w.heap.size w w2):=HB0.out.trans (B2.mono HB0.out.size)
     clear HR o2 i2 K2 HKT b2 B2 q0 q1 q2 hf htr
     go_wp2_with fail
     refine K3.mono ?_
     rintro e w3 ⟨a3,m3,c3,rfl,o3,b3⟩
     have B3:=HB2.out.trans (b3.mono HB2.out.size)
     have O3:=zf (o3.mono HB2.out.size)
     clear o3 b3 K3
     go_wp2
     go_ret3
     rw[HN.out]
     exact⟨a3,m3,c3,rfl,O3.out,B3⟩
theorem zrw {ps:List za} (h:zu ps=true):∀ p∈ps,(za6 p.2).isSome=true∧sumL p.2=p.1:=fun p hp=>by
 obtain⟨j,hj,rfl⟩:=List.getElem_of_mem hp
 simp only[zu,Bool.and_eq_true,decide_eq_true_eq,List.all_eq_true,List.mem_range] at h
 have:=h.2 j hj
 unfold stOk at this
 rw[za9 ps j hj,zaz ps j hj] at this
 simp only[Bool.and_eq_true,beq_iff_eq] at this
 exact⟨this.1.1,this.1.2⟩
theorem za18 {l:List za} (h4:l.length≤400) (hr:l.Pairwise (fun x y=>x.1<y.1)) (he:∀ p∈l,(za6 p.2).isSome=true∧sumL p.2=p.1):zu l=true:=by
 refine znc _ h4 fun j hj=>?_
 obtain⟨b1,b2⟩:=he _ (List.getElem_mem (h:=hj))
 unfold stOk
 rw[zaz _ j hj,za9 _ j hj,b1,b2]
 simp only[Bool.true_and,beq_self_eq_true,Bool.or_eq_true,decide_eq_true_eq]
 by_cases hz:j=0
 · exact .inl hz
 · right
   rw[za9 _ (j - 1) (by omega),zee]
   exact List.pairwise_iff_getElem.1 hr (j - 1) j (by omega) hj (by omega)
theorem zma {l:List za} (hs:∀ x∈l,∀ y∈l,x.1=y.1→x=y) (x:za):x∈zl l↔x∈l:=by
 obtain⟨_,s2,s3⟩:=zcj l
 refine⟨s2 x,fun hx=>?_⟩
 obtain⟨y,hy,he⟩:=s3 x hx
 have:=hs y (s2 y hy) x hx he
 rw[←this];exact hy
theorem zrx {ps qs:List za} (hp:ps.Pairwise (fun x y=>x.1<y.1)) (hs:∀ x∈ps,∀ y∈qs,x.1=y.1→x=y):zbr ps qs=false :=
 zmk ps qs fun j hj t' ht=>by
  have h1:=(zgh ps hp _ _).1 ht
  have:=hs _ h1 _ (List.getElem_mem (h:=hj)) rfl
  rw[←this]
structure AddF (ps qs R:List za):Prop where
 ok:zu R=true
 swap:za3 qs ps=true∧addR qs ps=R
 again:za3 R ps=true∧addR R ps=R
 all:∀ x∈ps ++ qs,zh R x.1=some x.2
 few:R.length≤ps.length+qs.length
theorem za19 {ps qs:List za} (h:za3 ps qs=true):AddF ps qs (addR ps qs):=by
 have hR:=zfk ps qs h
 simp only[za3,Bool.and_eq_true,decide_eq_true_eq,Bool.not_eq_true'] at h
 obtain⟨h1,h2,h3,h4⟩:=h
 have r1:=zdu ps h1
 have r2:=zdu qs h2
 have hs:=zsq ps qs r1 r2 h3
 obtain⟨s1,s2,s3⟩:=zcj (ps ++ qs)
 have hm:=zma hs
 rw[hR]
 have hok:zu (zl (ps ++ qs))=true:=za18 h4 s1 fun p hp=>by
  rcases List.mem_append.1 (s2 p hp) with h | h
  · exact zrw h1 p h
  · exact zrw h2 p h
 have hs':∀ x∈qs ++ ps,∀ y∈qs ++ ps,x.1=y.1→x=y:=fun x hx y hy=>hs x (by simpa [or_comm] using hx) y (by simpa [or_comm] using hy)
 have hsw:zl (qs ++ ps)=zl (ps ++ qs):=zg4 _ _ (zcj (qs ++ ps)).1 s1 fun x=>by
  rw[zma hs' x,hm x];simp[or_comm]
 have hsa:∀ x∈zl (ps ++ qs) ++ ps,∀ y∈zl (ps ++ qs) ++ ps,x.1=y.1→x=y:=fun x hx y hy=>hs x (by
  rcases List.mem_append.1 hx with h | h
  · exact s2 x h
  · exact List.mem_append_left _ h) y (by
  rcases List.mem_append.1 hy with h | h
  · exact s2 y h
  · exact List.mem_append_left _ h)
 have hag:zl (zl (ps ++ qs) ++ ps)=zl (ps ++ qs):=zg4 _ _ (zcj _).1 s1 fun x=>by
  rw[zma hsa x]
  constructor
  · intro hx
    rcases List.mem_append.1 hx with h | h
    · exact h
    · exact (hm x).2 (List.mem_append_left _ h)
  · exact fun hx=>List.mem_append_left _ hx
 have o1:za3 qs ps=true:=zj8 qs ps h2 h1 (zrx r2 fun x hx y hy=>hs x (List.mem_append_right _ hx) y (List.mem_append_left _ hy)) (by rw[hsw];exact h4)
 have o2:za3 (zl (ps ++ qs)) ps=true:=zj8 _ ps hok h1 (zrx s1 fun x hx y hy=>hs x (s2 x hx) y (List.mem_append_left _ hy)) (by rw[hag];exact h4)
 refine⟨hok,⟨o1,by rw[zfk _ _ o1,hsw]⟩,⟨o2,by rw[zfk _ _ o2,hag]⟩,fun x hx=>zlc _ s1 x ((hm x).2 hx),?_⟩
 have:=zf5 (ps ++ qs) _ (Nat.le_refl _)
 rw[List.take_length,List.length_append] at this
 exact this
def zj1 (p:za):Prop:=p.1.length≤12∧p.2≠[]∧p.2.length≤60
theorem za1a {l:List za} (h:zq l=true):∀ p∈l,zj1 p:=fun p hp=>by
 obtain⟨j,hj,rfl⟩:=List.mem_iff_getElem.1 hp
 have:=(zez l h).2 j hj
 simp only[okAt,Bool.and_eq_true,decide_eq_true_eq,za9 l j hj,zaz l j hj] at this
 exact⟨this.1.1.1,List.ne_nil_of_length_pos this.1.1.2,this.1.2⟩
theorem za1b {l:List za} (h60:l.length≤60) (hr:Rise l) (hs:∀ p∈l,zj1 p):zq l=true:=by
 refine zmg l h60 fun j hj=>?_
 obtain⟨h1,h2,h3⟩:=hs l[j] (List.getElem_mem _)
 have h4:=List.length_pos_iff.2 h2
 simp only[okAt,Bool.and_eq_true,Bool.or_eq_true,decide_eq_true_eq,za9 l j hj,zaz l j hj]
 refine⟨⟨⟨h1,h4⟩,h3⟩,?_⟩
 by_cases e:j=0
 · exact .inl e
 · right
   rw[za9 l (j - 1) (by omega),zft]
   exact List.pairwise_iff_getElem.1 hr (j - 1) j (by omega) hj (by omega)
theorem za1c {o:OpL} (h:opOk o=true):o.1.length≤12∧o.2.1.length≤60:=by
 obtain⟨k,v,c⟩:=o
 cases c with
 | true=>simp[opOk] at h;exact⟨h.1,by rw[h.2];simp⟩
 | false=>simp[opOk] at h;exact⟨h.1,h.2.2⟩
theorem za1d (os:List OpL):∀ ps:List za,(∀ p∈ps,zj1 p)→(∀ o∈os,opOk o=true)→∀ p∈za1 ps os,zj1 p:=by
 induction os with
 | nil=>exact fun ps h _=>h
 | cons o r ih =>
   intro ps h ho
   refine ih _ (fun p hp=>?_) (fun x hx=>ho x (List.mem_cons_of_mem _ hx))
   rcases (zht ps o.1 o.2.1 p).1 hp with ⟨h1,_⟩ | ⟨h0,h1⟩
   · exact h p h1
   · rw[h1]
     have:=za1c (ho o List.mem_cons_self)
     exact⟨this.1,h0,this.2⟩
theorem za1e {ps:List za} {os:List OpL} (hp:zq ps=true) (ho:∀ o∈os,opOk o=true) (hl:ps.length+os.length≤60):zq (za1 ps os)=true :=
 za1b (Nat.le_trans (zhv os ps (zgr hp)) hl) (zo3 os ps (zgr hp)) (za1d os ps (za1a hp) ho)
theorem za1f {ps:List za} {root:List UInt8} {c n:Int} {os:List OpL} {T:List za} {next:List UInt8} (hps:∀ p∈ps,p.1.length≤1048576∧p.2.length≤1048576) (h:stR ps root c n os=some (T,next)) :
 ∃ l,zag ps root=some l∧zat l c n os=true∧zy (za1 l os)=true∧next=zab (za1 l os)∧zag T next=some (za1 l os)∧T.length≤1048576∧∀ p∈T,p.1.length≤1048576∧p.2.length≤1048576:=by
 unfold stR at h
 rw[Option.bind_eq_some_iff] at h
 obtain⟨l,hl,h⟩:=h
 split at h
 · rename_i hm
   rw[zgs hm] at h
   unfold zbv at h
   split at h
   · rename_i hr
     simp only[Option.some.injEq,Prod.mk.injEq] at h
     obtain⟨h1,h2⟩:=h
     have A:=za19 hr.2
     rw[h1] at A
     have hnod:∀ x∈za2 (za1 l os),zh T x.1=some x.2:=fun x hx=>A.all x (List.mem_append_right _ hx)
     have hsm:T.length≤1048576∧∀ p∈T,p.1.length≤1048576∧p.2.length≤1048576:=by
      have h5:(zl (ps ++ za2 (za1 l os))).length≤1048576:=by
       have h6:=hr.2
       simp only[za3,Bool.and_eq_true,decide_eq_true_eq] at h6
       omega
      rw[zfk _ _ hr.2] at h1
      rw[←h1]
      refine⟨by omega,fun p hp=>?_⟩
      rcases List.mem_append.1 ((zcj _).2.1 p hp) with h6 | h6
      · exact hps p h6
      · exact zgz _ p h6
     exact⟨l,hl,hm,hr.1,h2.symm,by rw[←h2];exact za14 hr.1 A.ok (fun x hx=>hnod x (za11 hr.1 hx)),hsm.1,hsm.2⟩
   · cases h
 · cases h
theorem za1g {l:List za} {o:OpL} (hp:zq l=true) (ho:opOk o=true) (hn:zq (setL l o.1 o.2.1)=false):60≤l.length:=by
 by_cases h:l.length+1≤60
 · have:=za1e (os:=[o]) hp (by simpa using ho) (by simpa using h)
   rw[show za1 l [o]=setL l o.1 o.2.1 from rfl,hn] at this
   cases this
 · omega
end Go.Proofs.YtiadimhoolekbaaGreatDoor
