/-
 On lists: a file that is replaced on a synced disk, and what a loss of power leaves of it.
-/
import Derived.Test.YtlllkdioojjaeaaMathDn
import Derived.Test.YtlllkdioojjaeaaMathCrd
namespace Go.Proofs.Ytlllkdioojjaeaa
open Go.RowKit
set_option linter.unusedVariables false
theorem act_zero {live safe:List PairL} {ops:List DOpL} {o:DOpL} (h:(actL live safe ops o).2.2.2=0):formOk o=true∧(doF live o).2=true∧filesOk (doF live o).1=true∧actL live safe ops o=((doF live o).1,safe,ops ++ [o],0):=by
 revert h
 unfold actL
 split
 · simp
 · split
   · simp
   · split
     · simp
     · rename_i h1 h2 h3
       intro _
       simp only[not_or] at h3
       exact⟨by simpa using h1,by simpa using h2,by simpa using h3.2,rfl⟩
theorem disk_self {g:List PairL} (h:filesOk g=true):diskOk g g []=true:=by
 unfold diskOk
 rw[h]
 simp[runF]
theorem sync_ok (live safe:List PairL) (ops:List DOpL):diskOk (syncL live safe ops) (syncL live safe ops) []=true:=by
 unfold syncL
 split
 · rename_i h
   simp only[diskOk,Bool.and_eq_true] at h
   exact disk_self h.1
 · decide
theorem read_other {a b:List PairL} {n:List UInt8} (ha:Rise a) (hb:Rise b) (h:∀ v,(n,v)∈a↔(n,v)∈b):datF a n=datF b n∧(decide (0≤atF a n)=decide (0≤atF b n)):=by
 by_cases hm:∃ v,(n,v)∈a
 · obtain⟨v,hv⟩:=hm
   have h1:=at_in ha hv
   have h2:=at_in hb ((h v).1 hv)
   exact⟨by rw[h1.2,h2.2],by rw[decide_eq_true h1.1,decide_eq_true h2.1]⟩
 · have h1:=at_out (fs:=a) (n:=n) (fun v hv=>hm ⟨v,hv⟩)
   have h2:=at_out (fs:=b) (n:=n) (fun v hv=>hm ⟨v,(h v).2 hv⟩)
   exact⟨by rw[h1.2,h2.2],by rw[h1.1,h2.1]⟩
theorem new_ne (nm:List UInt8):nm≠nm ++ dotNew:=fun e=>by
 have:=congrArg List.length e
 simp[dotNew] at this
def o1R (nm da:List UInt8):DOpL:=⟨1,nm ++ dotNew,[],da⟩
def o2R (nm:List UInt8):DOpL:=⟨2,nm ++ dotNew,nm,[]⟩
def g1R (sy:List PairL) (nm da:List UInt8):List PairL:=putL sy (nm ++ dotNew) da
def g2R (sy:List PairL) (nm da:List UInt8):List PairL:=putL (cutF (g1R sy nm da) (nm ++ dotNew)) nm da
theorem do_one {sy:List PairL} {nm:List UInt8} (da:List UInt8) (hno:¬ 0≤atF sy (nm ++ dotNew)):doF sy ⟨1,nm ++ dotNew,[],da⟩=(putL sy (nm ++ dotNew) da,true):=by
 rw[do_app]
 have:datF sy (nm ++ dotNew)=[]:=by unfold datF;rw[if_neg hno]
 rw[this];rfl
theorem rep_two {sy:List PairL} {nm da:List UInt8} (hd:diskOk sy sy []=true) (hno:¬ 0≤atF sy (nm ++ dotNew)) (hc:(repL sy sy [] nm da).2.2.2=0) :
 repL sy sy [] nm da=(g2R sy nm da,sy,[o1R nm da,o2R nm],0)∧filesOk (g1R sy nm da)=true∧filesOk (g2R sy nm da)=true∧doF (g1R sy nm da) (o2R nm)=(g2R sy nm da,true)∧diskOk (g2R sy nm da) sy [o1R nm da,o2R nm]=true:=by
 have hri:Rise sy:=by
  have:=hd
  simp only[diskOk,Bool.and_eq_true] at this
  exact (rise_files this.1).1
 unfold repL at hc ⊢
 rw[if_pos hd] at hc ⊢
 have hr:repOps (decide (0≤atF sy (nm ++ dotNew))) nm da=[o1R nm da,o2R nm]:=by
  rw[decide_eq_false hno];rfl
 rw[hr] at hc ⊢
 simp only[List.foldl_cons,List.foldl_nil] at hc ⊢
 have hs1:stepD (sy,sy,[],0) (o1R nm da)=actL sy sy [] (o1R nm da):=by unfold stepD;rw[if_pos rfl]
 rw[hs1] at hc ⊢
 have hc1:(actL sy sy [] (o1R nm da)).2.2.2=0:=by
  by_cases h:(actL sy sy [] (o1R nm da)).2.2.2=0
  · exact h
  · unfold stepD at hc
    rw[if_neg h] at hc
    unfold repEnd at hc
    rw[if_neg h] at hc
    exact absurd hc h
 have ok1:=act_ok hd hc1
 obtain⟨f1,e1,k1,a1⟩:=act_zero hc1
 have d1:doF sy (o1R nm da)=(g1R sy nm da,true):=do_one da hno
 rw[d1] at a1 k1
 rw[a1] at hc ok1 ⊢
 have hs2:stepD (g1R sy nm da,sy,[] ++ [o1R nm da],0) (o2R nm)=actL (g1R sy nm da) sy ([] ++ [o1R nm da]) (o2R nm):=by unfold stepD;rw[if_pos rfl]
 rw[hs2] at hc ⊢
 have hc2:(actL (g1R sy nm da) sy ([] ++ [o1R nm da]) (o2R nm)).2.2.2=0:=by
  by_cases h:(actL (g1R sy nm da) sy ([] ++ [o1R nm da]) (o2R nm)).2.2.2=0
  · exact h
  · unfold repEnd at hc
    rw[if_neg h] at hc
    exact absurd hc h
 have ok2:=act_ok ok1 hc2
 obtain⟨f2,e2,k2,a2⟩:=act_zero hc2
 have hr1:Rise (g1R sy nm da):=(rise_files k1).1
 have hin:(nm ++ dotNew,da)∈g1R sy nm da:=(put_memF hri _).2 (.inr rfl)
 have d2:doF (g1R sy nm da) (o2R nm)=(g2R sy nm da,true):=by
  unfold o2R
  rw[do_ren hr1]
  have hik:inK (nm ++ dotNew) (g1R sy nm da)=true:=(inK_iff _ _).2 ⟨da,hin⟩
  rw[hik,if_pos rfl,(at_in hr1 hin).2];rfl
 rw[d2] at a2 k2
 rw[a2] at ok2 ⊢
 unfold repEnd
 rw[if_pos rfl]
 exact⟨rfl,k1,k2,d2,ok2⟩
theorem files_less {sy:List PairL} {k v v':List UInt8} (hs:filesOk sy=true) (hk:filesOk (putL sy k v)=true) (hl:v'.length≤v.length):filesOk (putL sy k v')=true:=by
 have hri:=(rise_files hs).1
 obtain⟨h1,h2,h3,h4⟩:=rise_files hk
 rw[put_lohi sy k v hri] at h2 h3 h4
 have h1':=rise_putF (k:=k) (v:=v') hri
 rw[filesOk_fit h1' (fun p hp=>by
  rw[put_lohi sy k v' hri] at hp
  simp only[List.mem_append,List.mem_singleton] at hp
  rcases hp with (hp | hp) | hp
  · exact h2 p (by simp[hp])
  · subst hp;exact h2 (k,v) (by simp)
  · exact h2 p (by simp[hp]))]
 rw[put_lohi sy k v' hri]
 simp only[dataN,List.map_append,List.sum_append,List.map_cons,List.map_nil,List.sum_cons,List.sum_nil,List.length_append,List.length_cons,List.length_nil,Bool.and_eq_true,decide_eq_true_eq] at h3 h4 ⊢
 exact⟨by omega,by omega⟩
def subs:Nat→List (List Int)
 | 0=>[[]]
 | j+1=>subs j ++ (subs j).map (· ++ [(j:Int)])
theorem rep_crash {sy:List PairL} {nm da:List UInt8} {tn:Int} {ks:List Int} (hs:filesOk sy=true) (hno:¬ 0≤atF sy (nm ++ dotNew)) (h1:filesOk (g1R sy nm da)=true) (h2:filesOk (g2R sy nm da)=true) (hd2:doF (g1R sy nm da) (o2R nm)=(g2R sy nm da,true)) (hd:diskOk (g2R sy nm da) sy [o1R nm da,o2R nm]=true) (ht:0≤tn) (hk:ks∈subs 2) :
 ∃ cr,crashL (g2R sy nm da) sy [o1R nm da,o2R nm] ks tn=cr∧crashB (g2R sy nm da) sy [o1R nm da,o2R nm] ks tn=true∧filesOk cr=true∧((readR cr cr [] nm=readR sy sy [] nm∧readB cr cr [] nm=readB sy sy [] nm)∨(readR cr cr [] nm=da∧readB cr cr [] nm=true)):=by
 have hri:=(rise_files hs).1
 have hD:=disk_self hs
 have hinF:inK (nm ++ dotNew) sy=false:=by rw[←inK_neg hri];omega
 have hd2s:doF sy (o2R nm)=(sy,false):=by
  unfold o2R
  rw[do_ren hri,hinF];rfl
 have key:∀ cr,keptTo [o1R nm da,o2R nm] ks tn sy ks.length=cr→placesOk 2 ks=true→filesOk cr=true→crashL (g2R sy nm da) sy [o1R nm da,o2R nm] ks tn=cr∧crashB (g2R sy nm da) sy [o1R nm da,o2R nm] ks tn=true:=by
  intro cr hcr hp hf
  have hb:crashB (g2R sy nm da) sy [o1R nm da,o2R nm] ks tn=true:=by
   unfold crashB
   rw[hd,decide_eq_true ht]
   simp only[List.length_cons,List.length_nil]
   rw[hp,hcr,hf];rfl
  exact⟨by unfold crashL;rw[if_pos hb,hcr],hb⟩
 have hread:∀ cr,filesOk cr=true→(∀ v,(nm,v)∈cr↔(nm,v)∈sy)→readR cr cr [] nm=readR sy sy [] nm∧readB cr cr [] nm=readB sy sy [] nm:=by
  intro cr hf hv
  have a:=read_dat (n:=nm) (disk_self hf)
  have b:=read_dat (n:=nm) hD
  have c:=read_other (rise_files hf).1 hri hv
  exact⟨by rw[a.1,b.1,c.1],by rw[a.2,b.2,c.2]⟩
 have ht2:tornO tn (o2R nm)=o2R nm:=by unfold tornO;rw[if_neg (by simp[o2R])]
 have hks:ks=[]∨ks=[0]∨ks=[1]∨ks=[0,1]:=by
  simpa [subs] using hk
 rcases hks with rfl | rfl | rfl | rfl
 · refine⟨sy,(key sy rfl (by decide) hs).1,(key sy rfl (by decide) hs).2,hs,.inl ⟨rfl,rfl⟩⟩
 · obtain⟨da',hl,hto⟩:∃ da':List UInt8,da'.length≤da.length∧tornO tn (o1R nm da)=⟨1,nm ++ dotNew,[],da'⟩:=by
    unfold tornO
    split
    · exact⟨da.take tn.toNat,by simp;omega,rfl⟩
    · exact⟨da,Nat.le_refl _,rfl⟩
   have hkt:keptTo [o1R nm da,o2R nm] [0] tn sy [(0:Int)].length=putL sy (nm ++ dotNew) da':=by
    show (doF sy (keptOp [o1R nm da,o2R nm] [0] tn 0)).1=_
    have:keptOp [o1R nm da,o2R nm] [0] tn 0=tornO tn (o1R nm da):=rfl
    rw[this,hto,do_one da' hno]
   have hf:filesOk (putL sy (nm ++ dotNew) da')=true:=files_less hs h1 hl
   refine⟨_,(key _ hkt (by decide) hf).1,(key _ hkt (by decide) hf).2,hf,.inl (hread _ hf fun v=>?_)⟩
   rw[put_memF hri]
   constructor
   · rintro (⟨h,_⟩ | h)
     · exact h
     · simp only[Prod.mk.injEq] at h;exact absurd h.1 (new_ne nm)
   · intro h;exact .inl ⟨h,new_ne nm⟩
 · have hkt:keptTo [o1R nm da,o2R nm] [1] tn sy [(1:Int)].length=sy:=by
    show (doF sy (keptOp [o1R nm da,o2R nm] [1] tn 0)).1=_
    have:keptOp [o1R nm da,o2R nm] [1] tn 0=tornO tn (o2R nm):=rfl
    rw[this,ht2,hd2s]
   refine⟨sy,(key sy hkt (by decide) hs).1,(key sy hkt (by decide) hs).2,hs,.inl ⟨rfl,rfl⟩⟩
 · have hkt:keptTo [o1R nm da,o2R nm] [0,1] tn sy [(0:Int),1].length=g2R sy nm da:=by
    show (doF (doF sy (keptOp [o1R nm da,o2R nm] [0,1] tn 0)).1 (keptOp [o1R nm da,o2R nm] [0,1] tn 1)).1=_
    have e0:keptOp [o1R nm da,o2R nm] [0,1] tn 0=o1R nm da:=rfl
    have e1:keptOp [o1R nm da,o2R nm] [0,1] tn 1=tornO tn (o2R nm):=rfl
    have d1:doF sy (o1R nm da)=(g1R sy nm da,true):=do_one da hno
    rw[e0,e1,ht2,d1,hd2]
   refine⟨_,(key _ hkt (by decide) h2).1,(key _ hkt (by decide) h2).2,h2,.inr ?_⟩
   have a:=read_dat (n:=nm) (disk_self h2)
   have hrc:Rise (cutF (g1R sy nm da) (nm ++ dotNew)):=rise_cutF (rise_files h1).1
   have hm:(nm,da)∈g2R sy nm da:=(put_memF hrc _).2 (.inr rfl)
   have b:=at_in (rise_files h2).1 hm
   exact⟨by rw[a.1,b.2],by rw[a.2];simpa using b.1⟩
theorem rep_now {sy:List PairL} {nm da:List UInt8} (h1:filesOk (g1R sy nm da)=true) (hd:diskOk (g2R sy nm da) sy [o1R nm da,o2R nm]=true):readR (g2R sy nm da) sy [o1R nm da,o2R nm] nm=da∧readB (g2R sy nm da) sy [o1R nm da,o2R nm] nm=true:=by
 have a:=read_dat (n:=nm) hd
 have hrc:Rise (cutF (g1R sy nm da) (nm ++ dotNew)):=rise_cutF (rise_files h1).1
 have hm:(nm,da)∈g2R sy nm da:=(put_memF hrc _).2 (.inr rfl)
 have h2:Rise (g2R sy nm da):=by
  have:=hd
  simp only[diskOk,Bool.and_eq_true] at this
  exact (rise_files this.1).1
 have b:=at_in h2 hm
 exact⟨by rw[a.1,b.2],by rw[a.2];simpa using b.1⟩
end Go.Proofs.Ytlllkdioojjaeaa
