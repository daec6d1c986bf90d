/-
 Texts that are laid as one: ZMap, ISs, IOrdZ.
-/
import Derived.Test.YtppljdnbhoeeoaaGreatDoorRepAll
import Derived.Test.YtppljdnbhoeeoaaGreatDoorShelfM
namespace Go.Proofs.YtppljdnbhoeeoaaGreatDoor
open Go.RowKit
set_option linter.unusedVariables false
set_option maxHeartbeats 4000000
set_option maxRecDepth 100000
open Go.RowKit Go.Maps
def zcd (L:List zg):Prop:=L.Pairwise fun x y=>x.1<y.1
def zbr (L:List zg) (c:Int):Int:=((L.find? fun p=>decide (p.1=c)).map fun p=>p.2).getD 0
def noZ (c:Int) (L:List zg):List zg:=L.filter fun p=>decide (p.1≠c)
def insZ (c n:Int):List zg→List zg
 | []=>[(c,n)]
 | p :: r=>if c≤p.1 then (c,n) :: noZ c (p :: r) else p :: insZ c n r
def zax (c n:Int) (o:List zg × Bool) (p:zg):List zg × Bool:=((if o.2=false∧c≤p.1 then o.1 ++ [(c,n)] else o.1) ++ (if p.1=c then [] else [p]),o.2 || decide (c≤p.1))
def endZ (c n:Int) (o:List zg × Bool):List zg:=if o.2=true then o.1 else o.1 ++ [(c,n)]
theorem za4r (c n:Int) (L:List zg) (a:List zg):L.foldl (zax c n) (a,true)=(a ++ noZ c L,true):=by
 induction L generalizing a with
 | nil=>simp[noZ]
 | cons p r ih =>
   rw[List.foldl_cons]
   have:zax c n (a,true) p=(a ++ (if p.1=c then [] else [p]),true):=by simp[zax]
   rw[this,ih]
   by_cases h:p.1=c <;> simp[noZ,h]
theorem za4s (c n:Int) (L:List zg) (a:List zg):endZ c n (L.foldl (zax c n) (a,false))=a ++ insZ c n L:=by
 induction L generalizing a with
 | nil=>simp[endZ,insZ]
 | cons p r ih =>
   rw[List.foldl_cons]
   by_cases h:c≤p.1
   · have e:zax c n (a,false) p=(a ++ [(c,n)] ++ (if p.1=c then [] else [p]),true):=by simp[zax,h]
     rw[e,za4r,endZ,if_pos rfl,insZ,if_pos h]
     by_cases h':p.1=c <;> simp[noZ,h']
   · have hne:p.1≠c:=fun e=>h (by omega)
     have e:zax c n (a,false) p=(a ++ [p],false):=by simp[zax,h,hne]
     rw[e,ih,insZ,if_neg h]
     simp
theorem mem_noZ {c:Int} {L:List zg} {x:zg}:x∈noZ c L↔x∈L∧x.1≠c:=by simp[noZ]
theorem zm1 (c n:Int) (L:List zg) (x:zg):x∈insZ c n L↔(x∈L∧x.1≠c)∨x=(c,n):=by
 induction L with
 | nil=>simp[insZ]
 | cons p r ih =>
   unfold insZ
   split
   · rw[List.mem_cons,mem_noZ]
     exact Or.comm
   · next h =>
     have hne:p.1≠c:=fun e=>h (by omega)
     rw[List.mem_cons,ih,List.mem_cons]
     constructor
     · rintro (rfl | ⟨h1,h2⟩ | h1)
       · exact .inl ⟨.inl rfl,hne⟩
       · exact .inl ⟨.inr h1,h2⟩
       · exact .inr h1
     · rintro (⟨h1 | h1,h2⟩ | h1)
       · exact .inl h1
       · exact .inr (.inl ⟨h1,h2⟩)
       · exact .inr (.inr h1)
theorem za4t {c:Int} {L:List zg} (h:zcd L):zcd (noZ c L):=List.Pairwise.filter _ h
theorem za4u (c n:Int) (L:List zg) (h:zcd L):zcd (insZ c n L):=by
 induction L with
 | nil=>simp[insZ,zcd]
 | cons p r ih =>
   have hp:=List.pairwise_cons.1 h
   unfold insZ
   split
   · next hc =>
     refine List.pairwise_cons.2 ⟨fun x hx=>?_,za4t h⟩
     obtain⟨h1,h2⟩:=mem_noZ.1 hx
     rcases List.mem_cons.1 h1 with rfl | h1
     · show c<x.1
       omega
     · have:=hp.1 x h1
       show c<x.1
       omega
   · next hc =>
     refine List.pairwise_cons.2 ⟨fun x hx=>?_,ih hp.2⟩
     rcases (zm1 c n r x).1 hx with ⟨h1,_⟩ | rfl
     · exact hp.1 x h1
     · show p.1<c
       omega
theorem zsl {c:Int} {L:List zg} (h:∀ x∈L,x.1≠c):noZ c L=L:=List.filter_eq_self.2 fun x hx=>by simp[h x hx]
theorem zsm (c n : Int) (L : List zg) (h : zcd L) : ((∃ v, (c, v) ∈ L) → (insZ c n L).length = L.length) ∧ ((¬ ∃ v, (c, v) ∈ L) → (insZ c n L).length = L.length + 1) := by
 induction L with
 | nil=>simp[insZ]
 | cons p r ih =>
   have hp:=List.pairwise_cons.1 h
   unfold insZ
   split
   · next hc =>
     by_cases e:p.1=c
     · have hr:noZ c r=r:=zsl fun x hx=>by have:=hp.1 x hx;omega
       have h1:∃ v,(c,v)∈p :: r:=⟨p.2,by rw[←e];exact List.mem_cons_self⟩
       have:noZ c (p :: r)=noZ c r:=by simp[noZ,e]
       rw[this,hr]
       exact⟨fun _=>by simp,fun h=>absurd h1 h⟩
     · have hr:=zsl fun x hx=>by
        rcases List.mem_cons.1 hx with rfl | hx
        · exact e
        · have:=hp.1 x hx
          omega
       have h1:¬ ∃ v,(c,v)∈p :: r:=fun ⟨v,hv⟩=>by
        rcases List.mem_cons.1 hv with h2 | h2
        · exact e (by rw[←h2])
        · have:=hp.1 _ h2
          simp only at this
          omega
       rw[hr]
       exact⟨fun h=>absurd h h1,fun _=>by simp⟩
   · next hc =>
     have hne:p.1≠c:=fun e=>hc (by omega)
     have hi:(∃ v,(c,v)∈p :: r)↔∃ v,(c,v)∈r:=⟨fun ⟨v,hv⟩=>by
      rcases List.mem_cons.1 hv with h2 | h2
      · exact absurd (by rw[←h2]) hne
      · exact⟨v,h2⟩,fun ⟨v,hv⟩=>⟨v,List.mem_cons_of_mem _ hv⟩⟩
     obtain⟨i1,i2⟩:=ih hp.2
     exact⟨fun h=>by rw[List.length_cons,i1 (hi.1 h),List.length_cons],fun h=>by rw[List.length_cons,i2 (fun g=>h (hi.2 g)),List.length_cons]⟩
theorem zsn {L:List zg} {c:Int} (h:∀ x∈L,x.1≠c):zbr L c=0:=by
 have:L.find? (fun p=>decide (p.1=c))=none:=List.find?_eq_none.2 fun x hx=>by simp[h x hx]
 rw[zbr,this];rfl
theorem zso (p:zg) (r:List zg) (c:Int):zbr (p :: r) c=if p.1=c then p.2 else zbr r c:=by
 unfold zbr
 rw[List.find?_cons]
 by_cases h:p.1=c <;> simp[h]
theorem za4v {L:List zg} {c v:Int} (hr:zcd L) (h:(c,v)∈L):zbr L c=v:=by
 induction L with
 | nil=>simp at h
 | cons p r ih =>
   have hp:=List.pairwise_cons.1 hr
   rw[zso]
   rcases List.mem_cons.1 h with h1 | h1
   · rw[←h1,if_pos rfl]
   · have:=hp.1 _ h1
     rw[if_neg (fun e=>by simp only at this;omega),ih hp.2 h1]
theorem za4w {L:List zg} {c:Int} {j:Nat} (hj:j<L.length) (h:L[j].1=c) (hb:∀ i (hi:i<j),(L[i]'(by omega)).1≠c):zbr L c=L[j].2:=by
 induction L generalizing j with
 | nil=>simp at hj
 | cons p r ih =>
   rw[zso]
   cases j with
   | zero=>simp at h;simp[h]
   | succ j =>
     have h0:=hb 0 (by omega)
     simp at h0
     rw[if_neg h0]
     simp at h ⊢
     exact ih (by simpa using hj) h fun i hi=>by have:=hb (i+1) (by omega);simpa using this
def sv (p:zg):Value:=.agg #[.int .i64 p.1,.int .i64 p.2]
def svR (v:Value):Option (DataW Value × List MemPlace):=match v with
 | .agg ⟨[.int .i64 _,.int .i64 _]⟩=>some (.held v,[])
 | _=>none
theorem zsp (p:zg):svR (sv p)=some (.held (sv p),[]):=rfl
theorem zsq {v x:Value} {qs:List MemPlace} (h:svR v=some (.held x,qs)):v=x:=by
 unfold svR at h
 split at h
 · cases h;rfl
 · cases h
structure MapZ (D:DataW Value) (L:List zg):Prop where
 tidy:Tidy D
 size:Maps.size D=L.length
 has:∀ k:Int,Maps.has D (.int .i64 k)=true↔∃ v,(k,v)∈L
 at_:∀ p∈L,∀ z,D.atKey (.int .i64 p.1) z=.held (sv p)
theorem za4x:MapZ (.map []) []:=⟨tidy_empty,rfl,fun k=>by simp[has_eq],fun p hp=>by simp at hp⟩
theorem zm2 (k:Int):WideAt.IsKeyLit (.int .i64 k):=trivial
theorem int_ne {k k':Int} (h:k'≠k):(Lit.int .i64 k':Lit)≠.int .i64 k:=fun e=>h (by cases e;rfl)
theorem MapZ.put {D:DataW Value} {L M:List zg} (h:MapZ D L) (k v:Int) (hm:∀ x,x∈M↔(x∈L∧x.1≠k)∨x=(k,v)) (hl:M.length=if Maps.has D (.int .i64 k)=true then L.length else L.length+1):MapZ (D.put (.int .i64 k) (.held (sv (k,v)))) M where
 tidy:=h.tidy.put (zm2 k) _
 size:=by rw[size_put h.tidy,hl,h.size]
 has:=fun q=>by
  by_cases e:q=k
  · subst e
    rw[has_put_same h.tidy.isMap (zm2 q)]
    exact⟨fun _=>⟨v,(hm _).2 (.inr rfl)⟩,fun _=>rfl⟩
  · rw[has_put_other (int_ne e),h.has]
    constructor
    · rintro⟨u,hu⟩;exact⟨u,(hm _).2 (.inl ⟨hu,e⟩)⟩
    · rintro⟨u,hu⟩
      rcases (hm _).1 hu with h1 | h1
      · exact⟨u,h1.1⟩
      · exact absurd (congrArg Prod.fst h1) e
 at_:=fun p hp z=>by
  rcases (hm p).1 hp with ⟨h1,h2⟩ | h1
  · rw[atKey_put_other (int_ne h2),h.at_ p h1]
  · subst h1
    exact atKey_put_same h.tidy.isMap (zm2 k) _ _
theorem MapZ.ins {D:DataW Value} {L:List zg} (h:MapZ D L) (hr:zcd L) (c n:Int):MapZ (D.put (.int .i64 c) (.held (sv (c,n)))) (insZ c n L):=by
 refine h.put c n (fun x=>zm1 c n L x) ?_
 obtain⟨i1,i2⟩:=zsm c n L hr
 by_cases hv:∃ v,(c,v)∈L
 · rw[i1 hv,if_pos ((h.has c).2 hv)]
 · rw[i2 hv,if_neg (fun hh=>hv ((h.has c).1 hh))]
theorem MapZ.snoc {D:DataW Value} {L:List zg} (h:MapZ D L) (c n:Int) (hk:∀ x∈L,x.1≠c):MapZ (D.put (.int .i64 c) (.held (sv (c,n)))) (L ++ [(c,n)]):=by
 refine h.put c n (fun x=>?_) ?_
 · rw[List.mem_append,List.mem_singleton]
   exact⟨fun h'=>h'.imp (fun h1=>⟨h1,hk x h1⟩) id,fun h'=>h'.imp (fun h1=>h1.1) id⟩
 · rw[if_neg (fun hh=>by obtain⟨u,hu⟩:=(h.has c).1 hh;exact hk _ hu rfl)];simp
theorem MapZ.last {D:DataW Value} {L:List zg} (h:MapZ D L) (hr:zcd L) (c:Int) {zd:DataW Value} (hz:zd=.held (sv (0,0))):∃ u,D.atKey (.int .i64 c) zd=.held (sv (u,zbr L c)):=by
 by_cases hv:∃ v,(c,v)∈L
 · obtain⟨v,hv⟩:=hv
   exact⟨c,by rw[h.at_ _ hv,za4v hr hv]⟩
 · refine⟨0,?_⟩
   rw[zsn fun x hx e=>hv ⟨x.2,by rw[←e];exact hx⟩,←hz]
   cases hh:Maps.has D (.int .i64 c) with
   | true=>exact absurd ((h.has c).1 hh) hv
   | false=>exact atKey_of_not_has hh _
theorem MapZ.keys {D:DataW Value} {L:List zg} (h:MapZ D L) (hr:zcd L) {P:Program} {kt:TypeId} (hkt:P.underlying kt=some (.int .i64)) {w:World} {b n:Nat} (ho:w.ownsMap P kt svR b n D) {ss:List Int} (hs:ss.Perm (intKeys D)):ss.mergeSort leI=L.map (fun p=>p.1):=by
 obtain⟨es,rfl,hk⟩:=ho.keysOf
 have hnd:=List.pairwise_map.2 hr
 have hp:(L.map (fun p=>p.1)).Perm (intKeys (.map es)):=by
  obtain⟨es',he,hpw⟩:=h.tidy
  cases he
  refine perm_intKeys hpw (fun p hp=>?_) (hnd.imp (fun hab e=>by omega)) fun x=>?_
  · obtain⟨v,hv⟩:=hk p hp
    obtain⟨x,_,hx,_⟩:=Maps.keyOf_i64 hkt hv
    exact⟨x,hx⟩
  · rw[h.has,List.mem_map]
    exact⟨fun ⟨p,hp,e⟩=>⟨p.2,by rw[←e];exact hp⟩,fun ⟨v,hv⟩=>⟨_,hv,rfl⟩⟩
 rw[mergeSort_of_perm_i (hs.trans hp.symm)]
 have tr:∀ a b c:Int,leI a b=true→leI b c=true→leI a c=true:=fun a b c h1 h2=>by simp only[leI,decide_eq_true_eq] at *;omega
 have to:∀ a b:Int,(leI a b || leI b a)=true:=fun a b=>by simp only[leI,Bool.or_eq_true,decide_eq_true_eq];omega
 refine List.Perm.eq_of_pairwise (le:=fun a b=>leI a b=true) (fun a b _ _ h1 h2=>?_) (List.pairwise_mergeSort tr to _) (hnd.imp (fun hab=>by simp only[leI,decide_eq_true_eq];omega)) (List.mergeSort_perm _ leI)
 simp only[leI,decide_eq_true_eq] at h1 h2
 omega
open Go.RowKit Go.Maps
theorem lawZ:Keyed Tryz.prog 2:=int_keyed Tryz.underlying2
theorem keyZ (c:Int) (h:0≤c∧c≤1000000000000):keyOf Tryz.prog 2 (.int .i64 c)=some (.int .i64 c):=keyOf_int_mk Tryz.underlying2 (by
 have h1:IntKind.i64.min = -9223372036854775808:=rfl
 have h2:IntKind.i64.max=9223372036854775807:=rfl
 simp only[Lit.wf,h1,h2,Bool.and_eq_true,decide_eq_true_eq]
 omega)
theorem za4y (a:Option Addr) (cap:Nat) (ss:List zg) (w:World) (hl:ss.length≤6) (hr:zcd ss) (hb:∀ p∈ss,0≤p.1∧p.1≤1000000000000) (hs:IsSess w a ss) :
 Calls Tryz.prog 27 #[.slice a ss.length cap] w fun e w'=>∃ (mb:Nat) (D:DataW Value),e=.returned (.map (some mb))∧w.heap.size≤mb∧w'.ownsMap Tryz.prog 2 svR mb ss.length D∧MapZ D ss∧Below w.heap.size w w':=by
 have HS:Hid (∀ W,Below w.heap.size w W→IsSess W a ss):=fun W hW=>hs.later hW
 have HB:Hid (∀ j (h:j<ss.length),0≤ss[j].1∧ss[j].1≤1000000000000):=fun j h=>hb _ (List.getElem_mem _)
 have HR:Hid (∀ j (h:j<ss.length),∀ x∈ss.take j,x.1≠ss[j].1):=fun j h x hx e=>by
  obtain⟨i,hi,rfl⟩:=List.mem_iff_getElem.1 hx
  simp only[List.length_take] at hi
  have:=List.pairwise_iff_getElem.1 hr i j (by omega) h (by omega)
  simp only[List.getElem_take] at e
  omega
 have hmm:=@run_makeMap Tryz.prog
 have HM0:Hid ((w.alloc (.map #[] 0)).ownsMap Tryz.prog 2 svR w.heap.size 0 (.map [])):=World.ownsMap_made _ _ _ _
 have HX0:Hid (Below w.heap.size w (w.alloc (.map #[] 0))):=(Below.refl _ _).alloc (Nat.le_refl _) _
 have HL:Hid _:=hl
 clear hs hb hr hl
 go_enter Tryz.func27,Tryz.ntmps27
 go_wp2
 go_loopw [5,9] (fun _ v9 wr=>∃ (j:Nat) (D:DataW Value),j≤ss.length∧v9=.int .i64 (j:Int)∧Hid (MapZ D (ss.take j))∧Hid (wr.ownsMap Tryz.prog 2 svR w.heap.size j D)∧Hid (Below w.heap.size w wr)) (fun _ v9 _=>ss.length - (RowKit.intOf v9).toNat)
 case atStart=>exact⟨0,.map [],Nat.zero_le _,rfl,by rw[Hid];simpa using za4x,HM0,HX0⟩
 case round =>
  obtain⟨j,D,hj,rfl,HD,HOM,HBW⟩:=hrel
  by_cases hlt:j<ss.length
  · obtain⟨pb,poff,rfl,hc⟩:∃ pb poff,a=some ⟨pb,poff,none⟩∧(wr.cell? ⟨pb,poff+j*2,none⟩=some (.int .i64 ss[j].1)∧wr.cell? ⟨pb,poff+j*2+1,none⟩=some (.int .i64 ss[j].2)):=by
     rcases HS.out wr HBW.out with h | ⟨pb,poff,h,hc⟩
     · rw[h] at hlt;simp at hlt
     · exact⟨pb,poff,h,hc j hlt⟩
    obtain⟨c0,c1'⟩:=hc
    have hkey:=keyZ ss[j].1 (HB.out j hlt)
    have HNX:Hid (MapZ (D.put (.int .i64 ss[j].1) (.held (sv (ss[j].1,ss[j].2)))) (ss.take (j+1))):=by
     have h1:=HD.out.snoc ss[j].1 ss[j].2 (HR.out j hlt)
     rw[Hid,List.take_succ_eq_append_getElem hlt]
     exact h1
    have hj0:(0:Int)≤(j:Int):=by omega
    have hj1:(j:Int)<(ss.length:Int):=by omega
    have hj60:j≤6:=by have:=HL.out;omega
    obtain⟨x,hx⟩:∃ x,x=ss[j].1:=⟨_,rfl⟩
    obtain⟨y,hy⟩:∃ y,y=ss[j].2:=⟨_,rfl⟩
    rw[←hx] at c0 HNX hkey
    rw[←hy] at c1' HNX
    have HK:Hid _:=hkey
    have MA:Hid ((wr.alloc (.cells #[.int .i64 x,.int .i64 y] 62)).ownsMap Tryz.prog 2 svR w.heap.size j D):=HOM.out.alloc _
    have BA:Hid (Below w.heap.size w (wr.alloc (.cells #[.int .i64 x,.int .i64 y] 62))):=HBW.out.alloc HBW.out.size _
    clear hx hy hkey hlt
    go_wp2_with (at_mapUpdate;refine wpList_mapUpdate_own _ rfl _ _ _ 65 rfl 2 62 lawZ Tryz.underlying65 svR w.heap.size j D rfl MA.out (by unfold maxLen;omega) _ _ (.int .i64 x) rfl rfl HK.out (.held (sv (x,y))) [] (zsp (x,y)) ?_;intro w4 hown4 hgrow4)
    have M4:Hid _:=hown4
    have B4:Hid (Below w.heap.size w w4):=BA.out.grown hgrow4 BA.out.size (fun q hq=>by cases hq;exact Nat.le_refl _)
    clear hown4 hgrow4 MA BA c0 c1' HOM HBW HD
    first | go_roundw | (go_wp2;go_roundw)
    case rel=>exact⟨j+1,_,by omega,by go_num,HNX,M4,B4⟩
    case measure=>simp[RowKit.intOf];omega
  · have hjl:j=ss.length:=by omega
    subst hjl
    have HDE:Hid (MapZ D ss):=by have:=HD.out;rwa [List.take_length] at this
    clear HD hlt hj
    go_wp2
    go_ret
    exact⟨_,D,rfl,Nat.le_refl _,HOM.out,HDE.out,HBW.out⟩
open Go.RowKit Go.Maps Go.Sort Go.Shelf
theorem za4z (m:Nat):AnyZI.SortsIn Tryz.prog Tryz.sortedZ_ren Fence.wide m :=
 ⟨fun blk off cap ss W hH hblk hsz=>callsIn_wide.2 (AnyM.slices_Sort_int Tryz.sortZ blk off cap ss W hH hblk hsz),fun p cap W=>callsIn_wide.2 (AnyM.slices_Sort_int_none Tryz.sortZ p cap W)⟩
theorem za50 (mb:Option Nat) (W:World):Calls Tryz.prog 65 #[.map mb] W fun e w'=>e=.returned (.func (.func 90) #[] #[.pointer (some ⟨W.heap.size,0,none⟩)])∧w'=W.alloc (.cells #[.map mb] 64) :=
 (callsIn_wide (n:=5)).1 (AnyZI.keys_in Tryz.keysZ Fence.wide 5 trivial rfl mb W)
theorem za51 (mb n:Nat) (D:DataW Value) (R:Value→Option (DataW Value × List MemPlace)) (w:World) (hown:w.ownsMap Tryz.prog 2 R mb n D) (hmax:Maps.size D≤1048576) :
 Calls Tryz.prog 64 #[.func (.func 90) #[] #[.pointer (some ⟨w.heap.size,0,none⟩)]] (w.alloc (.cells #[.map (some mb)] 64)) fun e w'=>∃ (v:Value) (ss:List Int),e=.returned v∧ss.Perm (intKeys D) ∧
  w'.ownsRow (w.alloc (.cells #[.map (some mb)] 64)).heap.size 2 1 v ss.length ((ss.mergeSort (fun x y=>decide (x≤y))).map encZ)∧(v=.slice none 0 0↔ss=[])∧Below (w.alloc (.cells #[.map (some mb)] 64)).heap.size (w.alloc (.cells #[.map (some mb)] 64)) w':=by
 have hbl:=hown.lt
 have hseq:SeqGives Fence.wide 2 Tryz.prog 90 #[.pointer (some ⟨w.heap.size,0,none⟩)] encZ (fun ss=>ss.Perm (intKeys D)) (Maps.size D) (w.alloc (.cells #[.map (some mb)] 64)) :=
  AnyZI.keys_gives (ρ:=Tryz.keysZ_ren) { Tryz.keysZ with } Fence.wide _ trivial rfl (by omega) w.heap.size mb n D _ (by simp) (by simp) (by
   obtain⟨es,clock,hb,Ft,hs,hD⟩:=hown
   exact⟨es,clock,(Below.heap_alloc _ _ mb hbl).trans hb,Ft,hs,hD⟩)
 have cS:=AnyZI.sorted_in Tryz.sortedZ Fence.wide 5 trivial trivial trivial trivial rfl (by omega) (za4z _) (enters_of Tryz.func89 (by kernel_rfl) rfl) 90 #[.pointer (some ⟨w.heap.size,0,none⟩)] trivial (enters_of Tryz.func90 (by kernel_rfl) rfl) _ _ (by unfold maxLen;omega) (by omega) _ hseq
 exact (callsIn_wide (n:=5)).1 cS
theorem za52 (L:List Int):(L.map encZ).length=L.length:=List.length_map _
theorem za53 {w:World} {base e n:Nat} {a:Option Addr} {m cap:Nat} {ls:List Int} (h:w.ownsRow base e 1 (.slice a m cap) n (ls.map encZ)):m=ls.length∧n=ls.length∧(ls=[]∨∃ b off,a=some ⟨b,off,none⟩∧∀ j (h:j<ls.length),w.cell? ⟨b,off+j,none⟩=some (.int .i64 ls[j])):=by
 have hn:n=ls.length:=by have:=h.1;rw[za52] at this;omega
 rcases zff h with ⟨hv,h0,hx⟩ | ⟨g,cap',hv,hg1,hg2,hc,hf⟩
 · cases hv
   exact⟨by omega,hn,.inl (List.length_eq_zero_iff.1 (by omega))⟩
 · cases hv
   exact⟨hn,hn,.inr ⟨g,0,rfl,fun j hj=>by rw[Nat.zero_add,hc j (by omega)];simp[hj]⟩⟩
theorem za54:(Tryz.prog.info? 62).map (fun i=>(i.zero,i.size,i.bytes))=some (some (.agg #[.int .i64 0,.int .i64 0]),2,16):=by kernel_rfl
theorem zsr (w:World):(zeroValue 62).run Tryz.prog w=.ok (.agg #[.int .i64 0,.int .i64 0]) w:=by kernel_rfl
theorem za55 (mb n:Nat) (D:DataW Value) (L:List zg) (w:World) (hl:L.length≤10000) (hm:∀ p∈L,0≤p.1∧p.1≤1000000000000) (hr:zcd L) (hD:MapZ D L) (hown:w.ownsMap Tryz.prog 2 svR mb n D) :
 Calls Tryz.prog 30 #[.map (some mb)] w fun e w'=>∃ (a:Option Addr) (m c:Nat),e=.returned (.slice a m c)∧w'.ownsRow w.heap.size 62 2 (.slice a m c) L.length (zl L)∧Below w.heap.size w w':=by
 obtain⟨i0,hi0,hz0,hz1,hz2⟩:=info_parts za54
 have KK:=za50 (some mb) w
 have KS:=za51 mb n D svR w hown (by rw[hD.size];omega)
 have B0:Below w.heap.size w (w.alloc (.cells #[.map (some mb)] 64)):=(Below.refl _ _).alloc (Nat.le_refl _) _
 have HKY:Hid (∀ ss:List Int,ss.Perm (intKeys D)→ss.mergeSort (fun x y=>decide (x≤y))=L.map (fun p=>p.1)):=fun ss h=>hD.keys hr Tryz.underlying2 hown h
 have HM:Hid (w.ownsMap Tryz.prog 2 svR mb n D):=hown
 have hmb:=hown.lt
 have HAT:Hid (∀ j (h:j<L.length),∀ z,D.atKey (.int .i64 L[j].1) z=.held (sv L[j])):=fun j h z=>hD.at_ L[j] (List.getElem_mem _) z
 have HMM:Hid (∀ j (h:j<L.length),0≤L[j].1∧L[j].1≤1000000000000):=fun j h=>hm _ (List.getElem_mem _)
 clear hD hr hown hm
 go_enter Tryz.func30,Tryz.ntmps30
 go_wp2_with fail
 refine KK.mono ?_
 rintro e w1 ⟨rfl,rfl⟩
 clear KK
 go_wp2_with fail
 refine KS.mono ?_
 rintro e w2 ⟨v,ss,rfl,hp,o2,hnil,b2⟩
 dsimp only
 have hk:=HKY.out ss hp
 have hsl:ss.length=L.length:=by rw[←List.length_mergeSort ss,hk,List.length_map]
 rw[hk,hsl] at o2
 have B2:=B0.trans (b2.mono B0.size)
 obtain⟨a2,m2,c2,rfl⟩:=zdu o2
 obtain⟨hm2,_,i2⟩:=za53 o2
 have hm2':m2=L.length:=by rw[hm2,List.length_map]
 subst hm2'
 have HM2:Hid (w2.ownsMap Tryz.prog 2 svR mb n D):=(HM.out.alloc _).kept (row:=none) ⟨b2.os,b2.tape,b2.output,b2.size,fun q hq _=>b2.block q hq⟩ (by simp)
 have HI2:Hid _:=i2
 have HB2:Hid _:=B2
 have hw2:=B2.size
 clear KS hp o2 hnil b2 hk hsl hm2 i2 B0 B2 HM HKY
 by_cases h0:L.length=0
 · have hL:L=[]:=List.length_eq_zero_iff.1 h0
   subst hL
   clear HAT HMM h0
   go_wp2
   refine wp_loop_rounds 1 ?_
   rw[rounds_succ]
   go_wp2
   go_ret
   exact⟨none,0,0,rfl,World.ownsRow_nil _ _ _ _,HB2.out⟩
 · obtain⟨b,off,rfl,hc⟩:∃ b off,a2=some ⟨b,off,none⟩∧∀ j (h:j<L.length),w2.cell? ⟨b,off+j,none⟩=some (.int .i64 L[j].1):=by
    rcases HI2.out with h | ⟨b,off,h1,h2⟩
    · exact absurd (by have:=congrArg List.length h;simpa using this) h0
    · exact⟨b,off,h1,fun j h=>by have:=h2 j (by simpa using h);rwa [List.getElem_map] at this⟩
   have HC:Hid (∀ W,Below w2.heap.size w2 W→∀ j (h:j<L.length),W.cell? ⟨b,off+j,none⟩=some (.int .i64 L[j].1)):=fun W hW j h=>(hW.cell (p:=⟨b,off+j,none⟩) (World.block_lt_of_cell? w2 _ (hc j h))).trans (hc j h)
   have HMW:Hid (∀ W,Below w2.heap.size w2 W→W.ownsMap Tryz.prog 2 svR mb n D):=fun W hW=>HM2.out.kept (row:=none) ⟨hW.os,hW.tape,hW.output,hW.size,fun q hq _=>hW.block q hq⟩ (by simp)
   clear hc HI2 HM2 h0
   have HLL:Hid (L.length≤10000∧mb<w.heap.size∧w.heap.size≤w2.heap.size):=⟨hl,hmb,hw2⟩
   clear hl hmb hw2
   obtain⟨ln,hln⟩:∃ ln,L.length=ln:=⟨_,rfl⟩
   rw[hln]
   have HLN:Hid _:=hln
   clear hln
   go_wp2
   go_loopw [3,5,10] (fun v _ i wr=>∃ j c:Nat,∃ a:Option Addr,j≤ln∧i=.int .i64 (j:Int)∧v=.slice a j c∧Hid (wr.ownsRow w2.heap.size 62 2 (.slice a j c) j (zl (L.take j)))∧Hid (Below w2.heap.size w2 wr)) (fun _ _ i _=>ln - (RowKit.intOf i).toNat)
   case atStart=>exact⟨0,0,none,Nat.zero_le _,rfl,rfl,by rw[Hid];simpa [zl] using World.ownsRow_nil w2 w2.heap.size 62 2,Below.refl _ _⟩
   case round =>
    obtain⟨j,c,a,hj,rfl,rfl,HOW,HBW⟩:=hrel
    have hln:=HLN.out
    have hll:=HLL.out.1
    by_cases hlt:j<L.length
    · have c1:=HC.out wr HBW.out j hlt
      obtain⟨hk1,hv1⟩:=HMM.out j hlt
      have hkey:keyOf Tryz.prog 2 (.int .i64 L[j].1)=some (.int .i64 L[j].1):=by
       exact keyZ _ (HMM.out j hlt)
      obtain⟨v,qs,hrun,hR⟩:=(HMW.out wr HBW.out).lookup (t:=64) (e:=62) (int_keyed Tryz.underlying2) Tryz.underlying64 (zsr wr) (zd:=.held (.agg #[.int .i64 0,.int .i64 0])) (zp:=[]) rfl hkey
      rw[HAT.out j hlt] at hR
      obtain rfl:=zsq hR
      unfold sv at hrun
      have HT:Hid (zl (L.take (j+1))=zl (L.take j) ++ [.int .i64 L[j].1,.int .i64 L[j].2]):=by
       rw[Hid,zqj L j hlt,zfl];rfl
      have hj0:(0:Int)≤(j:Int):=by omega
      have hj1:(j:Int)<(ln:Int):=by omega
      have hjm:j≤10000:=by omega
      obtain⟨x,hx⟩:∃ x,x=L[j].1:=⟨_,rfl⟩
      obtain⟨y,hy⟩:∃ y,y=L[j].2:=⟨_,rfl⟩
      rw[←hx] at c1 hrun HT
      rw[←hy] at hrun HT
      have sw:=HBW.out.size
      have OA:Hid ((wr.alloc (.cells #[.int .i64 x,.int .i64 y] 62)).ownsRow w2.heap.size 62 2 (.slice a j c) j (zl (L.take j))):=HOW.out.alloc _
      have BA:Hid (Below w2.heap.size w2 (wr.alloc (.cells #[.int .i64 x,.int .i64 y] 62))):=HBW.out.alloc sw _
      clear hR hkey hx hy hk1 hv1 hll hln hlt
      go_wp2_with (at_builtin;refine wpList_append_lies _ rfl _ _ 32 rfl w2.heap.size 62 i0 (.agg #[.int .i64 0,.int .i64 0]) 2 16 Tryz.underlying32 hi0 hz0 hz1 hz2 rfl (by decide) (.slice a j c) j _ rfl OA.out ⟨wr.heap.size,0,none⟩ 1 1 [.int .i64 x,.int .i64 y] rfl rfl (World.news_of_block (cs:=#[.int .i64 x,.int .i64 y]) (t:=62) (fr:=(0,0)) (heap_alloc_new wr _)) (by simp[Value.oneCell']) (by omega) (by unfold maxLen;omega) (by omega) (by simp;omega) (wr.heap.size+1) (by simp) ?_;intro g4 c4 w4 hown4 hgrow4 hat4 hlt4)
      have B4:Hid _:=BA.out.grown hgrow4 BA.out.size (fun q hq=>(OA.out.lt q hq).1)
      have O4:Hid (w4.ownsRow w2.heap.size 62 2 (.slice (some ⟨g4,0,none⟩) (j+1) c4) (j+1) (zl (L.take (j+1)))):=by rw[Hid,HT.out];exact hown4
      clear hown4 hgrow4 OA BA HT hrun c1
      first | go_roundw | (go_wp2;go_roundw)
      case rel=>exact⟨j+1,c4,some ⟨g4,0,none⟩,by omega,by go_num,rfl,O4,B4⟩
      case measure=>simp[RowKit.intOf];omega
    · have hjl:j=ln:=by omega
      subst hjl
      have HE:Hid (wr.ownsRow w.heap.size 62 2 (.slice a j c) L.length (zl L)):=by
       have:=HOW.out
       rw[←hln,List.take_length] at this
       rw[Hid,←hln]
       exact this.mono HLL.out.2.2
      clear HOW hln hll hlt
      go_wp2
      go_ret
      exact⟨a,_,c,rfl,HE.out,HB2.out.trans (HBW.out.mono HLL.out.2.2)⟩
end Go.Proofs.YtppljdnbhoeeoaaGreatDoor
