/-
 Texts that are laid as one: MathUni, LaidO, SNodesO, MathNs.
-/
import Derived.Test.YtppljdnbhoeeoaaGreatDoorSortAll
namespace Go.Proofs.YtppljdnbhoeeoaaGreatDoor
open Go.RowKit
set_option linter.unusedVariables false
set_option maxHeartbeats 1000000
set_option maxRecDepth 100000
def Good (l:List za):Prop:=(∀ x∈l,x.1≠emptyL)∧∀ x∈l,∀ y∈l,x.1=y.1→x=y
theorem ze4 (l:List za) (i:Nat) (h:i<l.length):keyAt l i=l[i].1:=zad l i h
theorem zx7 (ns:List za) (h:zfr ns):(zai ns).Pairwise ahP:=by
 unfold zai Lib.compactUpTo
 rw[List.pairwise_map]
 have hp:((List.range ns.length).filter (Lib.keeps ns.toArray)).Pairwise (fun i j=>i<j∧i<ns.length∧j<ns.length∧Lib.keeps ns.toArray j=true):=by
  have h1:((List.range ns.length).filter (Lib.keeps ns.toArray)).Pairwise (· < ·):=(List.pairwise_lt_range).filter _
  have h2:∀ i∈(List.range ns.length).filter (Lib.keeps ns.toArray),i<ns.length∧Lib.keeps ns.toArray i=true:=fun i hi=>by
   rw[List.mem_filter,List.mem_range] at hi;exact hi
  exact h1.imp_of_mem fun {a b} ha hb hab=>⟨hab,(h2 a ha).1,(h2 b hb).1,(h2 b hb).2⟩
 refine hp.imp fun {i j} ⟨hij,hi,hj,hk⟩=>?_
 have ei:ns.toArray[i]! = ns[i]:=by simp[hi]
 have ej:ns.toArray[j]! = ns[j]:=by simp[hj]
 have ej1:ns.toArray[j - 1]! = ns[j - 1]:=by simp[show j - 1<ns.length by omega]
 have hne:ns[j]≠ns[j - 1]:=by
  unfold Lib.keeps at hk
  rw[decide_eq_true_iff,ej,ej1] at hk
  rcases hk with hk | hk
  · omega
  · exact hk
 have h1:ahP ns[j - 1] ns[j]:=by
  rcases zln ns[j - 1] ns[j] with h' | h' | h'
  · exact h'
  · exact absurd h'.symm hne
  · exact absurd h' (h (j - 1) j (by omega) hj)
 rw[ei,ej]
 by_cases e:i=j - 1
 · subst e;exact h1
 · rcases zln ns[i] ns[j - 1] with h' | h' | h'
   · exact zlm h' h1
   · rw[h'];exact h1
   · exact absurd h' (h i (j - 1) (by omega) (by omega))
theorem zx8 (ns : List za) (x : za) : x ∈ zai ns ↔ x ∈ ns := by
 unfold zai Lib.compactUpTo
 rw[List.mem_map]
 constructor
 · rintro⟨i,hi,rfl⟩
   rw[List.mem_filter,List.mem_range] at hi
   have:ns.toArray[i]! = ns[i]'hi.1:=by simp[hi.1]
   rw[this];exact List.getElem_mem _
 · intro hx
   obtain⟨i,hi,he⟩:=List.getElem_of_mem hx
   have key : ∀ i (hi : i < ns.length), ns[i] = x → ∃ k, k ∈ (List.range ns.length).filter (Lib.keeps ns.toArray) ∧ ns.toArray[k]! = x := by
    intro i
    induction i with
    | zero =>
      intro hi he
      refine⟨0,?_,by simp[hi,he]⟩
      rw[List.mem_filter,List.mem_range]
      exact⟨hi,by simp[Lib.keeps]⟩
    | succ i ih =>
      intro hi he
      by_cases hs:ns[i]'(by omega)=x
      · exact ih (by omega) hs
      · refine⟨i+1,?_,by simp[hi,he]⟩
        rw[List.mem_filter,List.mem_range]
        refine⟨hi,?_⟩
        apply Lib.keeps_pos
        have e1:ns.toArray[i+1]! = ns[i+1]:=by simp[hi]
        have e2:ns.toArray[i+1 - 1]! = ns[i]'(by omega):=by simp[show i<ns.length by omega]
        rw[e1,e2,he]
        exact fun e=>hs e.symm
   exact key i hi he
theorem zog {a b:List za} (h:∀ x,x∈a↔x∈b):Good a↔Good b:=by
 unfold Good
 constructor
 · rintro⟨h1,h2⟩
   exact⟨fun x hx=>h1 x ((h x).2 hx),fun x hx y hy=>h2 x ((h x).2 hx) y ((h y).2 hy)⟩
 · rintro⟨h1,h2⟩
   exact⟨fun x hx=>h1 x ((h x).1 hx),fun x hx y hy=>h2 x ((h x).1 hx) y ((h y).1 hy)⟩
theorem zx9 (m:List za) (h:m.Pairwise ahP):zcs m=true↔Good m:=by
 have hp:=List.pairwise_iff_getElem.1 h
 constructor
 · intro hok
   rw[zcs,List.all_eq_true] at hok
   have hat:∀ i (hi:i<m.length),m[i].1≠emptyL∧(i=0∨∃ h0:i - 1<m.length,m[i - 1].1≠m[i].1):=by
    intro i hi
    have:=hok i (List.mem_range.2 hi)
    unfold zcc at this
    rw[ze4 m i hi] at this
    by_cases hz:i=0
    · simp[hz] at this ⊢;exact this
    · rw[ze4 m (i - 1) (by omega)] at this
      simp[hz] at this
      exact⟨this.1,.inr ⟨by omega,this.2⟩⟩
   have hstep:∀ i (hi:i+1<m.length),m[i].1<m[i+1].1:=by
    intro i hi
    rcases hp i (i+1) (by omega) hi (by omega) with h1 | ⟨h1,_⟩
    · exact h1
    · rcases (hat (i+1) hi).2 with h0 | ⟨_,h0⟩
      · omega
      · exact absurd h1 (by simpa using h0)
   have hlt:∀ (k i:Nat) (hi:i+1+k<m.length),(m[i]'(by omega)).1<m[i+1+k].1:=by
    intro k
    induction k with
    | zero=>intro i hi;exact hstep i hi
    | succ k ih =>
      intro i hi
      exact List.lt_trans (ih i (by omega)) (hstep (i+1+k) hi)
   refine⟨fun x hx=>?_,fun x hx y hy e=>?_⟩
   · obtain⟨i,hi,rfl⟩:=List.getElem_of_mem hx
     exact (hat i hi).1
   · obtain⟨i,hi,rfl⟩:=List.getElem_of_mem hx
     obtain⟨j,hj,rfl⟩:=List.getElem_of_mem hy
     rcases Nat.lt_trichotomy i j with h' | h' | h'
     · have:=hlt (j - i - 1) i (by omega)
       have e2:i+1+(j - i - 1)=j:=by omega
       simp only[e2] at this
       rw[e] at this;exact absurd this (List.lt_irrefl _)
     · subst h';rfl
     · have:=hlt (i - j - 1) j (by omega)
       have e2:j+1+(i - j - 1)=i:=by omega
       simp only[e2] at this
       rw[e] at this;exact absurd this (List.lt_irrefl _)
 · rintro⟨h1,h2⟩
   refine zrp m fun i hi=>?_
   unfold zcc
   rw[ze4 m i hi]
   have a1:=h1 m[i] (List.getElem_mem _)
   by_cases hz:i=0
   · simp[hz];simpa [hz] using a1
   · rw[ze4 m (i - 1) (by omega)]
     have:m[i - 1].1≠m[i].1:=fun e=>by
      have e2:=h2 _ (List.getElem_mem _) _ (List.getElem_mem _) e
      have h3:=hp (i - 1) i (by omega) hi (by omega)
      rw[e2] at h3
      exact zrj _ h3
     simp[a1,this]
theorem zoh:∀ (a b:List za),a.Pairwise (fun x y=>x.1<y.1)→b.Pairwise (fun x y=>x.1<y.1)→(∀ x,x∈a↔x∈b)→a=b
 | [],[],_,_,_=>rfl
 | [],y :: b,_,_,h=>absurd ((h y).2 (by simp)) (by simp)
 | x :: a,[],_,_,h=>absurd ((h x).1 (by simp)) (by simp)
 | x :: a, y :: b, ha, hb, h => by
   rw[List.pairwise_cons] at ha hb
   have hxy:x=y:=by
    rcases List.mem_cons.1 ((h x).1 (by simp)) with h1 | h1
    · exact h1
    · rcases List.mem_cons.1 ((h y).2 (by simp)) with h2 | h2
      · exact h2.symm
      · exact absurd (List.lt_trans (hb.1 x h1) (ha.1 y h2)) (List.lt_irrefl _)
   subst hxy
   congr 1
   refine zoh a b ha.2 hb.2 fun z=>?_
   constructor
   · intro hz
     rcases List.mem_cons.1 ((h z).1 (List.mem_cons_of_mem _ hz)) with h1 | h1
     · subst h1;exact absurd (ha.1 z hz) (List.lt_irrefl _)
     · exact h1
   · intro hz
     rcases List.mem_cons.1 ((h z).2 (List.mem_cons_of_mem _ hz)) with h1 | h1
     · subst h1;exact absurd (hb.1 z hz) (List.lt_irrefl _)
     · exact h1
theorem zju (p:za):zb0 [] p=[p]:=by
 simp[zb0,zbh]
theorem zxa (x:za) (r:List za):keyAt (x :: r) 0=x.1:=rfl
theorem zxb (x:za) (r:List za) (k:Nat):keyAt (x :: r) (k+1)=keyAt r k:=by simp[keyAt]
theorem zhi (x:za) (r:List za) (p:za):zb0 (x :: r) p=if x.1<p.1 then x :: zb0 r p else if x.1=p.1 then x :: r else p :: x :: r:=by
 by_cases h:x.1<p.1
 · rw[if_pos h]
   have hb:Op.bytesLess x.1 p.1=true:=(zfq _ _).2 h
   unfold zb0
   simp only[zbh,hb,if_true,List.length_cons,zxb,Nat.add_lt_add_iff_right,List.take_succ_cons,List.drop_succ_cons]
   split <;> simp
 · rw[if_neg h]
   have hb:¬ Op.bytesLess x.1 p.1=true:=fun e=>h ((zfq _ _).1 e)
   unfold zb0
   simp only[zbh,if_neg hb,zxa,List.length_cons,Nat.zero_lt_succ,true_and,List.take_zero,List.nil_append,List.drop_zero]
   split <;> simp
theorem zjv:∀ (out:List za) (p x:za),x∈zb0 out p→x=p∨x∈out
 | [],p,x,h=>by rw[zju] at h;simpa using h
 | y :: r, p, x, h => by
   rw[zhi] at h
   split at h
   · rcases List.mem_cons.1 h with h | h
     · exact .inr (by simp[h])
     · rcases zjv r p x h with h | h
       · exact .inl h
       · exact .inr (by simp[h])
   · split at h
     · exact .inr h
     · rcases List.mem_cons.1 h with h | h
       · exact .inl h
       · exact .inr h
theorem zoi:∀ (out:List za) (p x:za),x∈out→x∈zb0 out p
 | [],p,x,h=>by simp at h
 | y :: r, p, x, h => by
   rw[zhi]
   split
   · rcases List.mem_cons.1 h with h | h
     · simp[h]
     · exact List.mem_cons_of_mem _ (zoi r p x h)
   · split
     · exact h
     · exact List.mem_cons_of_mem _ h
theorem zoj:∀ (out:List za) (p:za),∃ y∈zb0 out p,y.1=p.1
 | [],p=>⟨p,by rw[zju];simp,rfl⟩
 | y :: r, p => by
   rw[zhi]
   split
   · obtain⟨z,hz,he⟩:=zoj r p
     exact⟨z,List.mem_cons_of_mem _ hz,he⟩
   · split
     · rename_i h;exact⟨y,by simp,h⟩
     · exact⟨p,by simp,rfl⟩
theorem zok : ∀ (out : List za) (p : za), out.Pairwise (fun x y => x.1 < y.1) → (zb0 out p).Pairwise (fun x y => x.1 < y.1)
 | [],p,_=>by rw[zju];simp
 | y :: r, p, h => by
   rw[List.pairwise_cons] at h
   rw[zhi]
   split
   · rename_i hlt
     rw[List.pairwise_cons]
     refine⟨fun z hz=>?_,zok r p h.2⟩
     rcases zjv r p z hz with e | e
     · rw[e];exact hlt
     · exact h.1 z e
   · split
     · exact List.pairwise_cons.2 h
     · rename_i h1 h2
       have hgt:p.1<y.1:=by
        rcases tri y.1 p.1 with e | e | e
        · exact absurd e h1
        · exact absurd e h2
        · exact e
       rw[List.pairwise_cons]
       refine⟨fun z hz=>?_,List.pairwise_cons.2 h⟩
       rcases List.mem_cons.1 hz with e | e
       · rw[e];exact hgt
       · exact List.lt_trans hgt (h.1 z e)
theorem zol:∀ (ns out:List za),out.Pairwise (fun x y=>x.1<y.1) →
 (ns.foldl zb0 out).Pairwise (fun x y=>x.1<y.1)∧(∀ x∈ns.foldl zb0 out,x∈ns∨x∈out)∧(∀ x∈out,x∈ns.foldl zb0 out)∧∀ x∈ns,∃ y∈ns.foldl zb0 out,y.1=x.1
 | [],out,h=>⟨h,fun x hx=>.inr hx,fun x hx=>hx,fun x hx=>by simp at hx⟩
 | p :: ns, out, h => by
   obtain⟨h1,h2,h3,h4⟩:=zol ns (zb0 out p) (zok out p h)
   refine⟨h1,fun x hx=>?_,fun x hx=>h3 x (zoi out p x hx),fun x hx=>?_⟩
   · rcases h2 x hx with e | e
     · exact .inl (List.mem_cons_of_mem _ e)
     · rcases zjv out p x e with e | e
       · exact .inl (by simp[e])
       · exact .inr e
   · rcases List.mem_cons.1 hx with e | e
     · obtain⟨y,hy,he⟩:=zoj out p
       exact⟨y,h3 y hy,by rw[he,e]⟩
     · exact h4 x e
theorem zom (ns : List za) : (zu ns).Pairwise (fun x y => x.1 < y.1) ∧ (∀ x ∈ zu ns, x ∈ ns) ∧ ∀ x ∈ ns, ∃ y ∈ zu ns, y.1 = x.1 := by
 obtain⟨h1,h2,_,h4⟩:=zol ns [] List.Pairwise.nil
 exact ⟨h1, fun x hx => by rcases h2 x hx with e | e
                           · exact e
                           · simp at e,h4⟩
theorem zxc (l:List za) (h:l.Pairwise (fun x y=>x.1<y.1)) (y:za) (hy:y∈l):zm l y.1=some y.2:=by
 unfold zm
 induction l with
 | nil=>simp at hy
 | cons x r ih =>
   rw[List.pairwise_cons] at h
   rcases List.mem_cons.1 hy with e | e
   · subst e;simp
   · have hne:(x.1 == y.1)=false:=by
      rw[beq_eq_false_iff_ne];intro e2
      have:=h.1 y e
      rw[e2] at this;exact List.lt_irrefl _ this
     rw[List.find?_cons,hne]
     exact ih h.2 e
theorem zon (l:List za) (i:Nat) (h:i<l.length):zw l i=l[i].2:=by simp[zw,h]
theorem zoo (l:List za):zah l=true↔Good l:=by
 obtain⟨h1,h2,h3⟩:=zom l
 constructor
 · intro hok
   rw[zah,List.all_eq_true] at hok
   have hat:∀ x∈l,(zm (zu l) x.1).getD []=x.2∧x.1≠emptyL:=by
    intro x hx
    obtain⟨i,hi,rfl⟩:=List.getElem_of_mem hx
    have:=hok i (List.mem_range.2 hi)
    unfold zda at this
    rw[ze4 l i hi,zon l i hi] at this
    simpa using this
   refine⟨fun x hx=>(hat x hx).2,fun x hx y hy e=>?_⟩
   have e1:=(hat x hx).1
   have e2:=(hat y hy).1
   rw[e] at e1
   exact Prod.ext e (e1.symm.trans e2)
 · rintro⟨g1,g2⟩
   refine zr5 l fun i hi=>?_
   unfold zda
   rw[ze4 l i hi,zon l i hi]
   have hx:=List.getElem_mem hi
   obtain⟨y,hy,he⟩:=h3 _ hx
   have hyl:=h2 y hy
   have e:=g2 y hyl _ hx he
   have:=zxc _ h1 y hy
   rw[he] at this
   rw[this,e]
   simp[g1 _ hx]
theorem zxd {m:List za} (h:m.Pairwise ahP) (hg:Good m):m.Pairwise (fun x y=>x.1<y.1):=by
 refine h.imp_of_mem fun {a b} ha hb hab=>?_
 rcases hab with h' | ⟨h',h''⟩
 · exact h'
 · have:=hg.2 a ha b hb h'
   rw[this] at h'';exact absurd h'' (List.lt_irrefl _)
theorem zxe (all ns':List za) (hp:ns'.Perm all) (hr:zfr ns'):zcs (zai ns')=zah all∧(zah all=true→zai ns'=zu all):=by
 have hst:=zx7 ns' hr
 have hmem:∀ x,x∈zai ns'↔x∈all:=fun x=>(zx8 ns' x).trans hp.mem_iff
 have h1:zcs (zai ns')=true↔zah all=true:=by rw[zx9 _ hst,zoo,zog hmem]
 refine⟨?_,fun hok=>?_⟩
 · cases hA:zcs (zai ns') <;> cases hB:zah all <;> simp_all
 · have hg:=(zoo all).1 hok
   obtain⟨s1,s2,s3⟩:=zom all
   refine zoh _ _ (zxd hst ((zog hmem).2 hg)) s1 fun x=>?_
   rw[hmem]
   constructor
   · intro hx
     obtain⟨y,hy,he⟩:=s3 x hx
     have:=hg.2 y (s2 y hy) x hx he
     rw[←this];exact hy
   · exact s2 x
theorem zxf (l:List UInt8):zq (nibs l)=true:=by
 induction l with
 | nil=>rfl
 | cons b r ih =>
   rw[zei]
   simp only[zq,List.all_cons,Bool.and_eq_true,decide_eq_true_eq] at ih ⊢
   have:=b.toNat_lt
   refine⟨by simp;omega,by simp;omega,ih⟩
def zy (ps:List za):List za:=if zr ps then zu (allL ps) else []
theorem zop (ps:List za) (h:za3 ps=true) (i:Nat) (hi:i+1<ps.length):ps[i].1<ps[i+1].1:=by
 unfold za3 at h
 rw[Bool.and_eq_true,List.all_eq_true] at h
 have:=h.2 (i+1) (List.mem_range.2 hi)
 unfold okAt at this
 rw[ze4 ps (i+1) hi,show i+1 - 1=i from rfl,ze4 ps i (by omega)] at this
 simp only[Bool.and_eq_true,Bool.or_eq_true,decide_eq_true_iff] at this
 rcases this.2 with h' | h'
 · omega
 · exact (zfq _ _).1 h'
theorem zxg (ps:List za) (h:za3 ps=true):zbx (esOf ps):=by
 have hlt:∀ (k i:Nat) (hi:i+1+k<ps.length),(ps[i]'(by omega)).1<ps[i+1+k].1:=by
  intro k
  induction k with
  | zero=>intro i hi;exact zop ps h i hi
  | succ k ih=>intro i hi;exact List.lt_trans (ih i (by omega)) (zop ps h (i+1+k) hi)
 unfold zbx esOf
 rw[List.pairwise_map,List.pairwise_iff_getElem]
 intro i j hi hj hij
 refine zs0 _ _ ((zfq _ _).2 ?_)
 have:=hlt (j - i - 1) i (by omega)
 have e:i+1+(j - i - 1)=j:=by omega
 simpa only[e] using this
theorem tab_below {B:Nat} {w W:World} (hT:Tab w) (hB:1<B) (hb:Below B w W):Tab W :=
 ⟨Nat.lt_of_lt_of_le hT.1 hb.size, fun i hi => (by
  have h1:=hT.2 i hi
  have h2:=hb.block 1 hB
  simp only[World.cell?] at h1 ⊢
  rw[h2];exact h1)⟩
theorem zxh (ps:List za) (h:ps≠[]):∃ ns t,allL ps=ns ++ [zbi t]:=zia 59 (esOf ps) (fun e=>h (by
 have:=zeu ps
 rw[e] at this
 exact List.length_eq_zero_iff.1 this.symm))
theorem zjw (a : Option Addr) (cp : Nat) (ps : List za) (w : World) (hl : ps.length ≤ 1048576) (hm : ∀ p ∈ ps, p.1.length ≤ 1048576 ∧ p.2.length ≤ 1048576) (hs : IsPairs w a ps) (hT : Tab w) :
 Calls Tryz.prog 63 #[.slice a ps.length cp] w fun e w'=>∃ (a':Option Addr) (m c:Nat),e=.returned (.tuple #[.string ⟨(zae ps).toArray⟩,.slice a' m c,.bool (zr ps)])∧w'.ownsRow w.heap.size 59 2 (.slice a' m c) (zy ps).length (zb (zy ps))∧Below w.heap.size w w':=by
 have K1:=zi0 a cp ps w hl hm hs
 have HT:Hid (Tab w):=hT
 clear hT
 cases hp:za3 ps with
 | false =>
   have e1:zr ps=false:=by simp[zr,hp]
   have e2:zae ps=[]:=by simp[zae,e1]
   have e3:zy ps=[]:=by simp[zy,e1]
   rw[hp] at K1
   rw[e1,e2,e3]
   clear hs hm hp e1 e2 e3
   go_enter Tryz.func63,Tryz.ntmps63
   go_wp2_with fail
   refine K1.mono ?_
   rintro e w1 ⟨rfl,b1⟩
   go_wp2
   go_ret3
   exact⟨none,0,0,rfl,World.ownsRow_nil _ _ _ _,b1⟩
 | true =>
   rw[hp] at K1
   by_cases h0:ps=[]
   · subst h0
     have ea:allL []=[]:=zgs 60
     have e1:zr []=true:=by simp[zr,hp,ea,zah]
     have e2:zae []=emptyL:=by simp[zae,e1,ea,zcb]
     have e3:zy []=[]:=by simp[zy,e1,ea,zu]
     rw[e1,e2,e3]
     clear hs hm hp e1 e2 e3 ea
     go_enter Tryz.func63,Tryz.ntmps63
     go_wp2_with fail
     refine K1.mono ?_
     rintro e w1 ⟨rfl,b1⟩
     have K2:=zlf w1 (HT.out.later b1)
     go_wp2_with fail
     refine K2.mono ?_
     rintro e w2 ⟨rfl,b2⟩
     have b12:=b1.trans (b2.mono b1.size)
     go_wp2
     go_ret3
     exact⟨none,0,0,rfl,World.ownsRow_nil _ _ _ _,b12⟩
   · have hlen:0<ps.length:=List.length_pos_iff.2 h0
     have hfit:=zet ps hp
     have hrise:=zxg ps hp
     have hal:=zla ps hfit
     obtain⟨nn,tt,hall⟩:=zxh ps h0
     have hna:allL ps≠[]:=by rw[hall];simp
     have hapos:0<(allL ps).length:=List.length_pos_iff.2 hna
     have HOUT:Hid (∀ ns':List za,ns'.Perm (allL ps)→zfr ns'→(zcs (zai ns')=zr ps∧(zr ps=true→zai ns'=zy ps))):=by
      intro ns' h1 h2
      obtain⟨g1,g2⟩:=zxe (allL ps) ns' h1 h2
      have e1:zr ps=zah (allL ps):=by simp[zr,hp]
      refine⟨by rw[g1,e1],fun hok=>?_⟩
      rw[zy,if_pos hok]
      exact g2 (by rw[←e1];exact hok)
     have HR:Hid ((zr ps=true→zae ps=za0 (allL ps))∧(zr ps=false→zae ps=[])∧(zr ps=false→zy ps=[])):=by
      refine⟨fun h=>?_,fun h=>?_,fun h=>?_⟩
      · rw[zae,if_pos h,zcb,if_neg hna]
      · rw[zae,h];rfl
      · rw[zy,h];rfl
     rcases hs with h | ⟨gl,off,rfl,hc⟩
     · exact absurd h h0
     have HC:Hid (∀ W,Below w.heap.size w W→∀ j (h:j<ps.length),W.cell? ⟨gl,off+j*2,none⟩=some (.string ⟨ps[j].1.toArray⟩)∧W.cell? ⟨gl,off+j*2+1,none⟩=some (.string ⟨ps[j].2.toArray⟩)):=by
      intro W hW j hj
      have h1:=hc j hj
      exact⟨(hW.cell (p:=⟨gl,off+j*2,none⟩) (World.block_lt_of_cell? w _ h1.1)).trans h1.1,(hW.cell (p:=⟨gl,off+j*2+1,none⟩) (World.block_lt_of_cell? w _ h1.2)).trans h1.2⟩
     have HK2:Hid (∀ W,Below w.heap.size w W→_):=fun W hW=>za44 gl off cp ps W hfit hlen hrise (HC.out W hW)
     have HK3:Hid (∀ p lo W,IsTrie W lo 60 (.pointer p) (esOf ps)→Tab W→_):=fun p lo W h1 h2=>zvl p lo 60 (esOf ps) W (zl9 hfit) (zr0 hfit) (fun e he=>by
      obtain⟨x,_,rfl⟩:=List.mem_map.1 he
      exact zxf _) (by show (allL ps).length≤10000;omega) h1 h2
     have hps:¬ (ps.length:Int)=0:=by omega
     have hpb:((ps.length:Int) == 0)=false:=by simpa using hps
     clear hc hm hp hrise hall h0 hna
     go_enter Tryz.func63,Tryz.ntmps63
     go_wp2_with fail
     refine K1.mono ?_
     rintro e w1 ⟨rfl,b1⟩
     go_wp2_with fail
     refine (HK2.out w1 b1).mono ?_
     rintro e w2 ⟨b,rfl,htrie,b2⟩
     have B2:=b1.trans (b2.mono b1.size)
     have K3:=HK3.out (some ⟨b,0,none⟩) w1.heap.size w2 htrie (HT.out.later B2)
     clear K1 HK2 HK3 htrie
     go_wp2_with fail
     refine K3.mono ?_
     rintro e w3 ⟨v,rfl,o3,b3⟩
     have B3:=B2.trans (b3.mono B2.size)
     have hT2:=HT.out.later B2
     have hT3:∀ W,Below w2.heap.size w3 W→Tab W:=fun W hW=>tab_below hT2 hT2.1 (b3.trans hW)
     obtain⟨g,c,rfl⟩:∃ g c,v=.slice (some ⟨g,0,none⟩) (allL ps).length c:=by
      rcases o3.2 with ⟨_,h⟩ | ⟨g,c,cur,h,_⟩
      · exact absurd (show (allL ps).length=0 from h) (by omega)
      · exact⟨g,c,h⟩
     have o3':w3.ownsRow w2.heap.size 59 2 (.slice (some ⟨g,0,none⟩) (allL ps).length c) (allL ps).length (zb (allL ps)):=by rw[←zrk];exact o3
     have K4:=za3c w2.heap.size g c (allL ps) w3 (by omega) o3' b3.size hT3
     obtain⟨rt,hrt⟩:∃ rt,rt=za0 (zk 60 (esOf ps)):=⟨_,rfl⟩
     have HRT:Hid (rt=za0 (allL ps)):=hrt
     rw[←hrt]
     obtain⟨al,hal2⟩:∃ al,al=(allL ps).length:=⟨_,rfl⟩
     rw[←hal2] at K4 ⊢
     clear K3 o3 o3' hT3 hT2 hrt hal2
     go_wp2_with fail
     refine K4.mono ?_
     rintro e w4 ⟨ns',hperm,hris,b4,hcase⟩
     obtain⟨h1,h2⟩:=HOUT.out ns' hperm hris
     have s2:=B2.size
     have B4:=B3.trans (b4.mono s2)
     rcases hcase with ⟨hok,rfl,o4⟩ | ⟨hok,rfl⟩
     · have hrok:zr ps=true:=by rw[←h1];exact hok
       have hnod:=h2 hrok
       have HN:Hid (zai ns'=zy ps):=hnod
       have HO4:Hid (w4.ownsRow w.heap.size 59 2 (.slice (some ⟨g,0,none⟩) (zai ns').length c) (zy ps).length (zb (zy ps))):=by
        rw[Hid,←hnod];exact o4.mono s2
       have HROK:Hid (zr ps=true):=hrok
       clear K4 h1 h2 hok o4 hnod hrok b4
       go_wp2
       go_ret3
       exact⟨some ⟨g,0,none⟩,(zai ns').length,c,by rw[HROK.out,HR.out.1 HROK.out,HRT.out];rfl,HO4.out,B4⟩
     · have HROK:Hid (zr ps=false):=by rw[Hid,←h1];exact hok
       clear K4 h1 h2 hok b4
       go_wp2
       go_ret3
       exact⟨none,0,0,by rw[HROK.out,HR.out.2.1 HROK.out];rfl,by rw[HR.out.2.2 HROK.out];exact World.ownsRow_nil _ _ _ _,B4⟩
theorem zxi (a:Option Addr) (cp:Nat) (ps:List za) (w:World) (hl:ps.length≤1048576) (hm:∀ p∈ps,p.1.length≤1048576∧p.2.length≤1048576) (hs:IsPairs w a ps) (hT:Tab w) :
 Calls Tryz.prog 81 #[.slice a ps.length cp] w fun e w'=>e=.returned (.tuple #[.string ⟨(zae ps).toArray⟩,.bool (zr ps)])∧Below w.heap.size w w':=by
 have K:=zjw a cp ps w hl hm hs hT
 obtain⟨r,hr⟩:∃ r,r=zae ps:=⟨_,rfl⟩
 obtain⟨ok,hok⟩:∃ ok,ok=zr ps:=⟨_,rfl⟩
 rw[←hr,←hok] at K ⊢
 clear hs hm hT hr hok
 go_enter Tryz.func81,Tryz.ntmps81
 go_wp2_with fail
 refine K.mono ?_
 rintro e w1 ⟨a1,m1,c1,rfl,_,b1⟩
 go_wp2
 go_ret2
 exact⟨rfl,b1⟩
theorem zxj (a:Option Addr) (cp:Nat) (ps:List za) (w:World) (hl:ps.length≤1048576) (hm:∀ p∈ps,p.1.length≤1048576∧p.2.length≤1048576) (hs:IsPairs w a ps) (hT:Tab w) :
 Calls Tryz.prog 57 #[.slice a ps.length cp] w fun e w'=>∃ (a':Option Addr) (m c:Nat),e=.returned (.tuple #[.slice a' m c,.bool (zr ps)])∧w'.ownsRow w.heap.size 59 2 (.slice a' m c) (zy ps).length (zb (zy ps))∧Below w.heap.size w w':=by
 have K:=zjw a cp ps w hl hm hs hT
 obtain⟨r,hr⟩:∃ r,r=zae ps:=⟨_,rfl⟩
 obtain⟨ok,hok⟩:∃ ok,ok=zr ps:=⟨_,rfl⟩
 rw[←hr,←hok] at K
 rw[←hok]
 clear hs hm hT hr hok
 go_enter Tryz.func57,Tryz.ntmps57
 go_wp2_with fail
 refine K.mono ?_
 rintro e w1 ⟨a1,m1,c1,rfl,o1,b1⟩
 have O1:=zc o1
 clear o1 K
 go_wp2
 go_ret2
 exact⟨a1,m1,c1,rfl,O1.out,b1⟩
theorem zhj (ps:List za):(zy ps).length≤3600:=by
 unfold zy
 split
 · rename_i h
   simp only[zr,Bool.and_eq_true] at h
   have h1:=zla ps (zet ps h.1)
   have h2:=zib (allL ps) (allL ps).length (Nat.le_refl _)
   rw[List.take_length] at h2
   omega
 · simp
theorem zxk (a:Option Addr) (cp:Nat) (ps:List za) (w:World) (hl:ps.length≤1048576) (hm:∀ p∈ps,p.1.length≤1048576∧p.2.length≤1048576) (hs:IsPairs w a ps) :
 Calls Tryz.prog 44 #[.slice a ps.length cp] w fun e w'=>∃ (a':Option Addr) (m c:Nat),e=.returned (.tuple #[.slice a' m c,.bool (zr ps)])∧w'.ownsRow w.heap.size 59 2 (.slice a' m c) (zy ps).length (zb (zy ps))∧Below w.heap.size w w':=by
 have K1:=zi1 a cp ps w hl hm hs
 cases hp:za3 ps with
 | false =>
   have e1:zr ps=false:=by simp[zr,hp]
   have e3:zy ps=[]:=by simp[zy,e1]
   rw[hp] at K1
   rw[e1,e3]
   clear hs hm hp e1 e3
   go_enter Tryz.func44,Tryz.ntmps44
   go_wp2_with fail
   refine K1.mono ?_
   rintro e w1 ⟨rfl,b1⟩
   go_wp2
   go_ret2
   exact⟨none,0,0,rfl,World.ownsRow_nil _ _ _ _,b1⟩
 | true =>
   have e1:zr ps=zah (allL ps):=by simp[zr,hp]
   have e2:zy ps=if zah (allL ps) then zu (allL ps) else []:=by simp[zy,e1]
   rw[hp] at K1
   have HK2:Hid (∀ W,Below w.heap.size w W→_):=fun W hW=>zlc a cp ps W (zet ps hp) (hs.later hW)
   rw[e1,e2]
   obtain⟨r,hr⟩:∃ r,r=(if zah (allL ps) then zcb (allL ps) else []):=⟨_,rfl⟩
   obtain⟨nl,hnl⟩:∃ nl,nl=(if zah (allL ps) then zu (allL ps) else []):=⟨_,rfl⟩
   obtain⟨ok,hok⟩:∃ ok,ok=zah (allL ps):=⟨_,rfl⟩
   rw[←hr,←hnl] at HK2
   rw[←hnl]
   rw[←hok] at HK2 ⊢
   clear hs hm hp e1 e2 hr hok hnl
   go_enter Tryz.func44,Tryz.ntmps44
   go_wp2_with fail
   refine K1.mono ?_
   rintro e w1 ⟨rfl,b1⟩
   go_wp2_with fail
   refine (HK2.out w1 b1).mono ?_
   rintro e w2 ⟨a2,m2,c2,rfl,o2,b2⟩
   have B2:=b1.trans (b2.mono b1.size)
   have O2:=zc (o2.1.mono b1.size)
   clear o2 b2 K1 HK2
   go_wp2
   go_ret2
   exact⟨a2,m2,c2,rfl,O2.out,B2⟩
end Go.Proofs.YtppljdnbhoeeoaaGreatDoor
