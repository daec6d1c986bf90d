/-
 What a root leads to, of the program: reach over a map of nodes and a set of hashes.
-/
import Derived.Test.YtokfcfcdfhoejaaGreatDoorReachM
import Derived.Maps.OwnSet
import Derived.Maps.OwnOps
namespace Go.Proofs.YtokfcfcdfhoejaaGreatDoor
open Go.RowKit
set_option linter.unusedVariables false
def seR (v:Value):Option (DataW Unit × List MemPlace):=match v with
 | .agg ⟨[]⟩=>some (.held (),[])
 | _=>none
theorem seR_inv {v:Value} {y:DataW Unit × List MemPlace} (h:seR v=some y):v=.agg #[]:=by
 unfold seR at h
 split at h
 · rfl
 · cases h
theorem zeroSE (w:World):(zeroValue 53).run Tryz.prog w=.ok (.agg #[]) w:=by kernel_rfl
def datS (out:List Bs):DataW Unit:=out.foldl (fun D x=>D.put (keyLit x) (.held ())) (.map [])
theorem datS_snoc (out:List Bs) (x:Bs):datS (out ++ [x])=(datS out).put (keyLit x) (.held ()):=by simp[datS,List.foldl_append]
theorem datS_step:∀ (out:List Bs) (D:DataW Unit),Maps.IsMap D→Maps.IsMap (out.foldl (fun D x=>D.put (keyLit x) (.held ())) D)∧∀ x:Bs,x.length=32→(∀ y∈out,y.length=32)→(Maps.has (out.foldl (fun D x=>D.put (keyLit x) (.held ())) D) (keyLit x)=true↔Maps.has D (keyLit x)=true∨x∈out)
 | [],D,h=>⟨h,fun x _ _=>by simp⟩
 | y :: r, D, h => by
   have hm:Maps.IsMap (D.put (keyLit y) (.held ())):=by obtain⟨es,rfl⟩:=h;exact⟨_,rfl⟩
   obtain⟨h1,h2⟩:=datS_step r (D.put (keyLit y) (.held ())) hm
   refine⟨h1,fun x hx hy=>?_⟩
   rw[List.foldl_cons,h2 x hx (fun z hz=>hy z (List.mem_cons_of_mem _ hz)),List.mem_cons]
   by_cases e:x=y
   · subst e
     rw[Maps.has_put_same h (keyLit_key _) _]
     simp
   · rw[Maps.has_put_other (keyLit_ne _ _ hx (hy y (by simp)) e)]
     constructor
     · rintro (h | h)
       · exact .inl h
       · exact .inr (.inr h)
     · rintro (h | h | h)
       · exact .inl h
       · exact absurd h e
       · exact .inr h
theorem datS_has (out:List Bs) (x:Bs) (hx:x.length=32) (hy:∀ y∈out,y.length=32):Maps.has (datS out) (keyLit x)=true↔x∈out:=by
 have:=(datS_step out (.map []) ⟨_,rfl⟩).2 x hx hy
 refine this.trans ?_
 simp[Maps.has]
def SeenM (w:World) (S:Nat) (out:List Bs):Prop:=w.ownsMap Tryz.prog 56 seR S out.length (datS out)∧∀ y∈out,y.length=32
theorem SeenM.later {w w':World} {S:Nat} {out:List Bs} (h:SeenM w S out) (hb:Below w.heap.size w w'):SeenM w' S out:=⟨h.1.kept (grown_of_below hb none) (by simp),h.2⟩
theorem SeenM.keptBy {w w':World} {S:Nat} {out:List Bs} {row:Option Nat} (h:SeenM w S out) (hg:w.grownBy w' row) (hne:some S≠row):SeenM w' S out:=⟨h.1.kept hg hne,h.2⟩
theorem seen_made (w:World):SeenM (w.alloc (.map #[] 0)) w.heap.size []:=⟨World.ownsMap_made w Tryz.prog 56 seR,fun y hy=>by simp at hy⟩
theorem KeptT.belowT0 {w0 w w':World} {b:Nat} (h:KeptT w w' b) (hb:Below w0.heap.size w0 w) (hl:w0.heap.size≤b):Below w0.heap.size w0 w':=h.belowT hb hl
theorem own_pop {w:World} {base e g n cap:Nat} {ys:List Bs} {x:Bs} (hn:ys.length=n) (h:w.ownsRow base e 1 (.slice (some ⟨g,0,none⟩) (n+1) cap) (n+1) (scells (ys ++ [x]))):w.ownsRow base e 1 (.slice (some ⟨g,0,none⟩) n cap) n (scells ys)∧w.cell? ⟨g,n,none⟩=some (.string ⟨x.toArray⟩)∧n+1≤cap:=by
 have hc:=h.cellAt n (by omega)
 refine⟨⟨by simp[scells,hn],?_⟩,?_,?_⟩
 · rcases h.2 with ⟨hv,_⟩ | ⟨g',cap',cur,hv,hb,hg,hle,hm,hsz,htk⟩
   · cases hv
   · cases hv
     refine .inr ⟨g,cap,cur,rfl,hb,hg,by omega,hm,hsz,?_⟩
     have h1:=congrArg (List.take (n*1)) htk
     rw[List.take_take,show min (n*1) ((n+1)*1)=n*1 by omega] at h1
     rw[h1,scells_snoc,List.take_append_of_le_length (by simp[scells,hn]),List.take_of_length_le (by simp[scells,hn])]
 · rw[hc]
   simp[scells,hn]
 · rcases h.2 with ⟨hv,_⟩ | ⟨g',cap',cur,hv,_,_,hle,_⟩
   · cases hv
   · cases hv;exact hle
def ReachP (w0 w:World) (S:Nat) (ps:List PairL) (root:Bs) (e:Ending) (w':World):Prop :=
 ∃ ok:Bool,e=.returned (.bool ok)∧KeptT w w' S∧(ok=true→∃ out,SeenM w' S out∧((root=emptyL∧out=[])∨(¬ root=emptyL∧Srch (kidsW ps) (thereN ps) root out [])))∧(ok=false→¬ root=emptyL∧¬ AllThere (kidsW ps) (thereN ps) root)
def ReachG (w:World) (S:Nat) (ps:List PairL) (root:Bs) (R:Bs→Prop) (out0:List Bs) (e:Ending) (w':World):Prop :=
 ∃ ok:Bool,e=.returned (.bool ok)∧KeptT w w' S∧(ok=true→∃ out,SeenM w' S out∧((root=emptyL∧out=out0)∨(¬ root=emptyL∧SrchR (kidsW ps) (thereN ps) R out [])))∧(ok=false→¬ root=emptyL∧¬ AllThereR (kidsW ps) (thereN ps) R)
set_option maxRecDepth 100000 in
set_option maxHeartbeats 8000000 in
theorem impl_reachG (mb S : Nat) (ps : List PairL) (root : Bs) (R : Bs → Prop) (out0 : List Bs) (w0 w : World) (hst : storeOkL ps = true) (h400 : ps.length ≤ 400) (hM : HeldM w0 mb ps ps.length) (hB : Below w0.heap.size w0 w) (hS0 : w0.heap.size ≤ S) (hSn : SeenM w S out0) (hR : SrchR (kidsW ps) (thereN ps) R out0 [root]) (hT : Tab w0) (hr : root.length ≤ 1048576) :
 Calls Tryz.prog 18 #[.map (some mb),.string ⟨root.toArray⟩,.map (some S)] w fun e w'=>ReachG w S ps root R out0 e w':=by
 obtain⟨i0,hi0,hz0,hz1,hz2⟩:=info_parts info9t
 have KE:=impl_empty w (hT.later hB)
 have HST:Hid (storeOkL ps=true):=hst
 have HM:Hid (HeldM w0 mb ps ps.length):=hM
 have HB0:Hid (Below w0.heap.size w0 w):=hB
 have hSl:S<w.heap.size:=hSn.1.lt
 obtain⟨em,hem⟩:∃ em,em=emptyL:=⟨_,rfl⟩
 have HEM:Hid (em=emptyL):=hem
 rw[←hem] at KE
 clear hM hB hT hst hem
 by_cases he:root=em
 · have hre:root=emptyL:=he.trans HEM.out
   have HRE:Hid (root=emptyL):=hre
   have HS:Hid (SeenM w S out0):=hSn
   clear hre hSn hR
   subst he
   go_enter Tryz.func18,Tryz.ntmps18
   go_wp2_with fail
   refine KE.mono ?_
   rintro e w1 ⟨rfl,b1⟩
   go_wp2
   go_ret
   exact⟨true,rfl,⟨b1.os,b1.tape,b1.output,b1.size,fun k hk _=>b1.block k hk⟩,fun _=>⟨out0,HS.out.later b1,.inl ⟨HRE.out,rfl⟩⟩,fun h=>absurd h (by decide)⟩
 · have heb : (root == em) = false := by rw [beq_eq_false_iff_ne]; exact he
   have HRE:Hid (¬ root=emptyL):=fun e=>he (e.trans HEM.out.symm)
   have HSN:Hid (SeenM w S out0):=hSn
   have HR:Hid (SrchR (kidsW ps) (thereN ps) R out0 [root]):=hR
   clear he hSn HEM hR
   go_enter Tryz.func18,Tryz.ntmps18
   go_wp2_with fail
   refine KE.mono ?_
   rintro e w1 ⟨rfl,b1⟩
   have hs1:=b1.size
   have BL:Below w1.heap.size w1 (w1.alloc (.cells #[.string ⟨root.toArray⟩] 9)):=(Below.refl _ _).alloc (Nat.le_refl _) _
   have S1:Hid (SeenM (w1.alloc (.cells #[.string ⟨root.toArray⟩] 9)) S out0):=(HSN.out.later b1).later BL
   have K1:Hid (KeptT w (w1.alloc (.cells #[.string ⟨root.toArray⟩] 9)) S):=KeptT.alloc ⟨b1.os,b1.tape,b1.output,b1.size,fun k hk _=>b1.block k hk⟩ _
   have O1:Hid ((w1.alloc (.cells #[.string ⟨root.toArray⟩] 9)).ownsRow w.heap.size 9 1 (.slice (some ⟨w1.heap.size,0,none⟩) 1 1) 1 (scells [root])):=World.ownsRow_lit (e:=9) (size:=1) w1 #[.string ⟨root.toArray⟩] 1 (base:=w.heap.size) hs1 (by decide) rfl
   clear KE HSN BL
   go_wp2
   go_loopg [7,8,9,10,11,12,13,15] ((ps.length - out0.length)*17+1) (fun gk v7 _ _ _ _ _ _ _ wr=>∃ (out todo:List Bs) (g c n:Nat),Hid (n=todo.length)∧Hid (gk=(ps.length - out.length)*17+n)∧v7=.slice (some ⟨g,0,none⟩) n c∧n≤16*out.length+1∧Hid (wr.ownsRow w.heap.size 9 1 (.slice (some ⟨g,0,none⟩) n c) n (scells todo))∧Hid (SeenM wr S out)∧Hid (SrchR (kidsW ps) (thereN ps) R out todo)∧Hid (∀ y∈todo,y.length≤1048576)∧Hid (KeptT w wr S))
   case atStart=>exact⟨out0,[root],w1.heap.size,1,1,rfl,rfl,rfl,by omega,O1,S1,HR,by simpa [Hid] using hr,K1⟩
   case round =>
    obtain⟨out,todo,g,c,n,HN,HGK,rfl,hn16,HO,HSE,HSR,HYL,HKT⟩:=hrel
    have hsz:=HKT.out.size
    have hol:=out_le HSR.out
    have hgl:=HO.out.lt g (by simp[Value.ownBlock])
    rcases todo.eq_nil_or_concat with rfl | ⟨ys,x,rfl⟩
    · obtain rfl:n=0:=HN.out
      clear HN HGK HO HYL
      go_wp2
      go_ret
      exact⟨true,rfl,HKT.out,fun _=>⟨out,HSE.out,.inr ⟨HRE.out,HSR.out⟩⟩,fun h=>absurd h (by decide)⟩
    · rw [List.concat_eq_append] at HN HO HSR HYL
      obtain⟨m,hm⟩:∃ m,m=ys.length:=⟨_,rfl⟩
      have hnm:n=m+1:=by rw[HN.out,hm,List.length_append];rfl
      subst hnm
      obtain⟨O2,dx,hmc1⟩:=own_pop hm.symm HO.out
      have hmc:m≤c:=by omega
      have O2:=hidOwn O2
      have hxl:=HYL.out x (by simp)
      have HHM:Hid (m=ys.length):=hm
      have hpos:(0:Int)<(m:Int)+1:=by omega
      have hBr:Below w0.heap.size w0 wr:=HKT.out.belowT0 HB0.out hS0
      have KA:=impl_atV0 mb ps x w0 wr HST.out hxl HM.out hBr
      have hwm:IntKind.i64.wrap ((m:Int)+1 - 1)=(m:Int):=by rw[show (m:Int)+1 - 1=(m:Int) by omega];exact i64_wrap_small _ (by omega) (by omega)
      have hem1:(m:Int)+1 - 1=(m:Int):=by omega
      have hm0:(0:Int)≤(m:Int):=by omega
      clear hm HN HO hBr
      cases hfd:findL ps x with
      | none =>
        have HNA:Hid (¬ AllThereR (kidsW ps) (thereN ps) R):=srch_lost HSR.out x (by simp) (by unfold thereN;rw[hfd];rfl)
        rw[hfd] at KA
        clear hfd HSR HYL
        go_wp2_with fail
        refine KA.mono ?_
        rintro e w2 ⟨rfl,b2⟩
        have K2:Hid (∀ o,KeptT w (w2.alloc o) S):=fun o=>(HKT.out.next b2.os b2.tape b2.output b2.size (fun q h1 h2=>b2.block q (Nat.lt_of_lt_of_le h1 hsz))).alloc o
        clear KA b2
        go_wp2
        go_ret
        exact⟨false,rfl,K2.out _,fun h=>absurd h (by decide),fun _=>⟨HRE.out,HNA.out⟩⟩
      | some t =>
        obtain⟨_,_,_,_,htr⟩:=findL_ok ps HST.out x t hfd
        have hok:=nodeAt_ok t htr
        obtain⟨nd,hnd⟩:∃ nd,nd=nodeAt t:=⟨_,rfl⟩
        obtain⟨k,q,ls,z⟩:=nd
        rw[←hnd] at hok
        have hkids:∀ y∈ls,y=[]∨y.length=32:=by
         rcases (ok_parts _ hok).2.2.2 with ⟨_,h2,_⟩ | ⟨_,_,_,y,h4,h5⟩ | ⟨_,_,_,h4⟩
         · intro y hy;rw[show ls=[] from h2] at hy;cases hy
         · intro y' hy;rw[show ls=[y] from h4,List.mem_singleton] at hy;rw[hy];exact .inr h5
         · exact h4
        have hl16:ls.length≤16:=by
         rcases (ok_parts _ hok).2.2.2 with ⟨_,h2,_⟩ | ⟨_,_,_,y,h4,_⟩ | ⟨_,_,h3,_⟩
         · rw[show ls=[] from h2];simp
         · rw[show ls=[y] from h4];simp
         · have:ls.length=16:=h3
           omega
        have hx32:x.length=32:=by
         obtain⟨j,hj,hjk,_⟩:=findL_ok ps HST.out x t hfd
         have:=storeOk_len ps HST.out j hj
         rw[hjk] at this
         exact this
        have HKD:Hid (kidsW ps x=ls.filter (fun x => !x.isEmpty)):=kidsW_some hfd hnd.symm
        have HTX:Hid (thereN ps x=true):=by rw[Hid];unfold thereN;rw[hfd];rfl
        have HAP:Hid (∀ W W' e,AtPost0 w0 W (some t) e W'→∃ (a:Option Addr) (c:Nat),e=.returned (.tuple #[.agg #[.string ⟨t.toArray⟩,.int .i64 k,.string ⟨q.toArray⟩,.slice a ls.length c,.string ⟨z.toArray⟩],.bool true])∧IsStrs w0 a ls∧Below W.heap.size W W'):=fun W W' e hh=>by
         obtain⟨⟨a,c,h1,h2,_⟩,h4⟩:=hh
         rw[←hnd] at h1 h2
         exact⟨a,c,h1,h2,h4⟩
        have HKL:Hid (∀ y∈ls,y=[]∨y.length=32):=hkids
        rw[hfd] at KA
        clear hfd hok htr hnd hkids
        go_wp2_with fail
        refine KA.mono ?_
        rintro e w2 h2
        obtain⟨a4,c4,rfl,i4,b2⟩:=HAP.out _ _ _ h2
        have hs2:=b2.size
        have C2:Below wr.heap.size wr (w2.alloc (.cells #[.string ⟨t.toArray⟩,.int .i64 k,.string ⟨q.toArray⟩,.slice a4 ls.length c4,.string ⟨z.toArray⟩] 78)):=b2.trans ((Below.refl _ _).alloc b2.size _)
        have K2:Hid (KeptT w (w2.alloc (.cells #[.string ⟨t.toArray⟩,.int .i64 k,.string ⟨q.toArray⟩,.slice a4 ls.length c4,.string ⟨z.toArray⟩] 78)) S):=(HKT.out.next b2.os b2.tape b2.output b2.size (fun q h1 h2=>b2.block q (Nat.lt_of_lt_of_le h1 hsz))).alloc _
        have SE2:Hid (SeenM (w2.alloc (.cells #[.string ⟨t.toArray⟩,.int .i64 k,.string ⟨q.toArray⟩,.slice a4 ls.length c4,.string ⟨z.toArray⟩] 78)) S out):=HSE.out.later C2
        have OW2:=hidOwn (kept1 O2.out C2)
        have Q2:Hid ((w2.alloc (.cells #[.string ⟨t.toArray⟩,.int .i64 k,.string ⟨q.toArray⟩,.slice a4 ls.length c4,.string ⟨z.toArray⟩] 78)).heap[w2.heap.size]? = some (.cells #[.string ⟨t.toArray⟩,.int .i64 k,.string ⟨q.toArray⟩,.slice a4 ls.length c4,.string ⟨z.toArray⟩] 78 (0,0))):=heap_alloc_new w2 _
        have I4:Hid (IsStrs w0 a4 ls):=i4
        have KK:=impl_keyOfHash x (w2.alloc (.cells #[.string ⟨t.toArray⟩,.int .i64 k,.string ⟨q.toArray⟩,.slice a4 ls.length c4,.string ⟨z.toArray⟩] 78)) hx32
        obtain⟨cs,hcs⟩:∃ cs,cs=(bcells x).toArray:=⟨_,rfl⟩
        have HKR:Hid (keyOf Tryz.prog 56 (.agg cs)=some (keyLit x)):=by rw[Hid,hcs];exact key_reads x hx32
        have hcsz:cs.size=32:=by rw[hcs];simp[bcells,hx32]
        have h1c:cs.all (·.oneCell')=true:=by rw[hcs];simp[bcells,Value.oneCell']
        rw[←hcs] at KK
        clear hcs h2 HAP KA b2 C2 i4 HKT HSE O2
        go_wp2_with fail
        refine KK.mono ?_
        rintro e w3 ⟨rfl,b3⟩
        have hs3:w2.heap.size+1≤w3.heap.size:=by have:=b3.size;simp at this;omega
        have K3:Hid (KeptT w w3 S):=K2.out.next b3.os b3.tape b3.output b3.size (fun q h1 h2=>b3.block q (Nat.lt_of_lt_of_le h1 K2.out.size))
        have SE3:Hid (SeenM w3 S out):=SE2.out.later b3
        have OW3:=hidOwn (kept1 OW2.out b3)
        have Q3:Hid (w3.heap[w2.heap.size]? = some (.cells #[.string ⟨t.toArray⟩,.int .i64 k,.string ⟨q.toArray⟩,.slice a4 ls.length c4,.string ⟨z.toArray⟩] 78 (0,0))):=(b3.block _ (by simp)).trans Q2.out
        have HG3:Hid (∀ o,(w3.alloc o).heap[w3.heap.size]? = some o):=fun o=>heap_alloc_new w3 o
        have HI:Hid ((Tryz.prog.info? 56).map (·.size)=some cs.size):=by rw[Hid,hcsz];kernel_rfl
        have hSl3:S<w3.heap.size:=by have:=K3.out.size;omega
        clear KK b3 K2 SE2 OW2 Q2
        by_cases hxo:x∈out
        · have HH:Hid (Maps.has (datS out) (keyLit x)=true):=(datS_has out x hx32 SE3.out.2).2 hxo
          have HS2:Hid (SrchR (kidsW ps) (thereN ps) R out ys):=srch_old HSR.out x hxo (fun y hy=>List.mem_append_left _ hy) (fun y hy=>by rw[List.mem_append,List.mem_singleton] at hy;exact hy.symm)
          have HYL2:Hid (∀ y∈ys,y.length≤1048576):=fun y hy=>HYL.out y (List.mem_append_left _ hy)
          have HG2:Hid ((ps.length - out.length)*17+m<gk):=by rw[Hid,HGK.out];omega
          clear HSR HYL HGK HKD HTX HKL hxo
          go_wp2_with (first
           | (refine store_laid rfl 56 _ _ rfl w3.heap.size cs rfl rfl 56 _ (HG3.out _) HI.out (by rw [hcsz]; rfl) h1c ?_; intro w5 hL5
              have B5:Hid (Below w3.heap.size w3 w5):=hL5.below ((Below.refl _ _).alloc (Nat.le_refl _) _) (by omega)
              have X5:Hid (w5.heap[w3.heap.size]? = some (.cells cs 56 (0,0))):=hL5.row
              have SE5:Hid (SeenM w5 S out):=SE3.out.later B5.out
              clear hL5)
           | (refine wpList_load_row rfl 56 _ rfl w3.heap.size rfl 56 cs (0,0) _ X5.out Tryz.underlying56 rfl HI.out ?_)
           | (at_lookup;refine wpList_lookup_own_ok _ rfl _ _ 51 rfl 56 53 keyedH Tryz.underlying51 seR (zeroSE _) (.held ()) [] rfl S out.length (datS out) rfl SE5.out.1 _ (keyLit x) rfl HKR.out ?_;intro vv qs hv;rw[HH.out];obtain rfl:=seR_inv hv;clear hv)
           | go_in)
          have K5:Hid (∀ o,KeptT w (w5.alloc o) S):=fun o=>(K3.out.next B5.out.os B5.out.tape B5.out.output B5.out.size (fun q h1 h2=>B5.out.block q (Nat.lt_of_lt_of_le h1 K3.out.size))).alloc o
          have SE6:Hid (∀ o,SeenM (w5.alloc o) S out):=fun o=>SE5.out.later ((Below.refl _ _).alloc (Nat.le_refl _) o)
          have O6:Hid (∀ o,(w5.alloc o).ownsRow w.heap.size 9 1 (.slice (some ⟨g,0,none⟩) m c) m (scells ys)):=fun o=>(kept1 OW3.out B5.out).alloc o
          go_roundg ((ps.length - out.length)*17+m)
          case measure=>exact HG2.out
          case rel=>exact⟨out,ys,g,c,m,HHM,rfl,rfl,by omega,O6.out _,SE6.out _,HS2,HYL2,K5.out _⟩
        · have HH : Hid (Maps.has (datS out) (keyLit x) = false) := by
           cases hh:Maps.has (datS out) (keyLit x) with
           | false=>rfl
           | true=>exact absurd ((datS_has out x hx32 SE3.out.2).1 hh) hxo
          go_wp2_with (first
           | (refine store_laid rfl 56 _ _ rfl w3.heap.size cs rfl rfl 56 _ (HG3.out _) HI.out (by rw [hcsz]; rfl) h1c ?_; intro w5 hL5
              have B5:Hid (Below w3.heap.size w3 w5):=hL5.below ((Below.refl _ _).alloc (Nat.le_refl _) _) (by omega)
              have X5:Hid (w5.heap[w3.heap.size]? = some (.cells cs 56 (0,0))):=hL5.row
              have SE5:Hid (SeenM w5 S out):=SE3.out.later B5.out
              have X6:Hid ((w5.alloc (.cells #[] 53)).heap[w3.heap.size]? = some (.cells cs 56 (0,0))):=(Below.heap_alloc _ _ _ (lt_of_block X5.out)).trans X5.out
              have SE6:Hid (SeenM (w5.alloc (.cells #[] 53)) S out):=SE5.out.later ((Below.refl _ _).alloc (Nat.le_refl _) _)
              have C6:Hid (Below w3.heap.size w3 (w5.alloc (.cells #[] 53))):=B5.out.alloc B5.out.size _
              clear hL5)
           | (refine wpList_load_row rfl 56 _ rfl w3.heap.size rfl 56 cs (0,0) _ X5.out Tryz.underlying56 rfl HI.out ?_)
           | (refine wpList_load_row rfl 56 _ rfl w3.heap.size rfl 56 cs (0,0) _ X6.out Tryz.underlying56 rfl HI.out ?_)
           | (at_lookup;refine wpList_lookup_own_ok _ rfl _ _ 51 rfl 56 53 keyedH Tryz.underlying51 seR (zeroSE _) (.held ()) [] rfl S out.length (datS out) rfl SE5.out.1 _ (keyLit x) rfl HKR.out ?_;intro vv qs hv;rw[HH.out];obtain rfl:=seR_inv hv;clear hv)
           | (at_mapUpdate; refine wpList_mapUpdate_own _ rfl _ _ _ 51 rfl 56 53 keyedH Tryz.underlying51 seR S out.length (datS out) rfl SE6.out.1 (by unfold maxLen; omega) _ _ (keyLit x) rfl rfl HKR.out (.held ()) [] rfl ?_; intro w8 hM8 hg8
              have Q8:Hid (w8.heap[w2.heap.size]? = some (.cells #[.string ⟨t.toArray⟩,.int .i64 k,.string ⟨q.toArray⟩,.slice a4 ls.length c4,.string ⟨z.toArray⟩] 78 (0,0))):=(hg8.block _ (by have:=C6.out.size;omega) (by simp;omega)).trans ((C6.out.block _ (by omega)).trans Q3.out)
              obtain⟨q0,q1,q2,q3,q4,_⟩:=five_cells Q8.out)
           | go_in)
          have hg8s:(w5.alloc (.cells #[] 53)).heap.size≤w8.heap.size:=hg8.size
          have hc6s:w3.heap.size≤(w5.alloc (.cells #[] 53)).heap.size:=C6.out.size
          have SE8:Hid (SeenM w8 S (out ++ [x])):=by
           refine⟨?_,fun y hy=>?_⟩
           · rw[datS_snoc,List.length_append];exact hM8
           · rw[List.mem_append,List.mem_singleton] at hy
             rcases hy with h | h
             · exact SE3.out.2 y h
             · rw[h];exact hx32
          have K8:Hid (KeptT w w8 S):=(K3.out.next C6.out.os C6.out.tape C6.out.output C6.out.size (fun q h1 h2=>C6.out.block q (Nat.lt_of_lt_of_le h1 K3.out.size))).next hg8.os hg8.tape hg8.output hg8.size (fun q h1 h2=>hg8.block q (by have:=K3.out.size;omega) (by simp;omega))
          have O8:Hid (w8.ownsRow w.heap.size 9 1 (.slice (some ⟨g,0,none⟩) m c) m (scells ys)):=(kept1 OW3.out C6.out).kept hg8 (.inr (by simp[Value.ownBlock];omega))
          have HS3:Hid (∀ td,(∀ y,y∈td↔y∈ys∨y∈kidsW ps x)→SrchR (kidsW ps) (thereN ps) R (out ++ [x]) td):=fun td htd=>by
           refine srch_new HSR.out x (by simp) hxo HTX.out (fun y hy=>?_) (fun y hy=>?_) (fun y hy=>(htd y).2 (.inr hy))
           · rcases (htd y).1 hy with h | h
             · exact .inl (List.mem_append_left _ h)
             · exact .inr h
           · rw[List.mem_append,List.mem_singleton] at hy
             rcases hy with h | h
             · exact .inr ((htd y).2 (.inl h))
             · exact .inl h
          have HYL2:Hid (∀ y∈ys,y.length≤1048576):=fun y hy=>HYL.out y (List.mem_append_left _ hy)
          have hS8:S<w8.heap.size:=by omega
          have hw8:w.heap.size≤w8.heap.size:=K8.out.size
          have hb8:w0.heap.size≤w.heap.size:=HB0.out.size
          have HI8:Hid (∀ j,j<ls.length→∃ bk offk,a4=some ⟨bk,offk,none⟩∧bk<w0.heap.size∧w0.cell? ⟨bk,offk+j,none⟩=some (.string ⟨(ls.getD j []).toArray⟩)):=fun j hj=>by
           obtain⟨b9,o9,h1,h2⟩:=strs_at I4.out j hj
           exact⟨b9,o9,h1,World.block_lt_of_cell? w0 _ (h2 j hj),h2 j hj⟩
          have hgS:g≠S:=by omega
          clear SE3 OW3 K3 Q3 HG3 HI HKR HH C6 X5 X6 SE5 SE6 B5 hM8 hg8 HSR HYL HTX I4 q0 q1 q2 q4
          go_loopw [7,15,59] (fun v7 _ i wi=>∃ (j g9 c9 n9:Nat) (td:List Bs),j≤ls.length∧i=.int .i64 (j:Int)∧Hid (td=ys ++ (ls.take j).filter (fun x => !x.isEmpty))∧Hid (n9=td.length)∧n9≤m+j∧v7=.slice (some ⟨g9,0,none⟩) n9 c9∧Hid (wi.ownsRow w.heap.size 9 1 (.slice (some ⟨g9,0,none⟩) n9 c9) n9 (scells td))∧Hid (KeptT w wi S)∧Hid (SeenM wi S (out ++ [x]))∧Hid (wi.heap[w2.heap.size]? = some (.cells #[.string ⟨t.toArray⟩,.int .i64 k,.string ⟨q.toArray⟩,.slice a4 ls.length c4,.string ⟨z.toArray⟩] 78 (0,0)))∧(g9=g∨w8.heap.size≤g9)∧w8.heap.size≤wi.heap.size) (fun _ _ i _=>ls.length - (intOf i).toNat)
          case atStart=>exact⟨0,g,c,m,ys,Nat.zero_le _,rfl,by simp[Hid],HHM,by omega,rfl,O8,K8,SE8,Q8,.inl rfl,Nat.le_refl _⟩
          case round =>
           obtain⟨j,g9,c9,n9,td,hj,rfl,HTD,HN9,hn9,rfl,HO9,HK9,HSE9,HQ9,hg9,hsz9⟩:=hrel
           have hj0:(0:Int)≤(j:Int):=by omega
           by_cases hlt:j<ls.length
           · have hji : (j : Int) < (ls.length : Int) := by omega
             obtain⟨bk,offk,ha4,hbk,hkc⟩:=HI8.out j hlt
             subst ha4
             have d1:=((HK9.out.belowT0 HB0.out hS0).cell (p:=⟨bk,offk+j,none⟩) hbk).trans hkc
             have HF1:=filter_step hlt
             obtain⟨kid,hkid⟩:∃ kid,kid=ls.getD j []:=⟨_,rfl⟩
             rw[←hkid] at d1 HF1
             clear hkid hkc q3
             cases hke:kid.isEmpty with
             | true =>
               have HTD1:Hid (td=ys ++ (ls.take (j+1)).filter (fun x => !x.isEmpty)):=by rw[Hid,HTD.out,HF1,hke];simp
               obtain rfl:kid=[]:=List.isEmpty_iff.1 hke
               clear HF1 HTD hke
               go_wp2
               go_roundw
               case rel=>exact⟨j+1,g9,c9,n9,td,by omega,by go_num,HTD1,HN9,by omega,rfl,HO9,HK9,HSE9,HQ9,hg9,hsz9⟩
               case measure=>simp[intOf];omega
             | false =>
               have HTD1:Hid (td ++ [kid]=ys ++ (ls.take (j+1)).filter (fun x => !x.isEmpty)):=by rw[Hid,HTD.out,HF1,hke];simp
               have hg9l:=HO9.out.lt g9 (by simp[Value.ownBlock])
               have hn9b:n9≤1000000:=by omega
               have hg9S:g9≠S:=by rcases hg9 with h | h <;> omega
               have hg92:g9≠w2.heap.size:=by rcases hg9 with h | h <;> omega
               clear HF1 HTD
               go_wp2_with (at_builtin;refine wpList_append_lies _ rfl _ _ 25 rfl w.heap.size 9 i0 (.string ⟨#[]⟩) 1 16 Tryz.underlying25 hi0 hz0 hz1 hz2 rfl (by decide) (.slice (some ⟨g9,0,none⟩) n9 c9) n9 _ rfl (HO9.out.alloc _) ⟨wr.heap.size,0,none⟩ 1 1 [.string ⟨kid.toArray⟩] rfl rfl (World.news_of_block (cs:=#[.string ⟨kid.toArray⟩]) (t:=9) (fr:=(0,0)) (heap_alloc_new wr _)) (by simp[Value.oneCell']) (by omega) (by unfold maxLen;omega) (by omega) (by simp;omega) (wr.heap.size+1) (by simp) ?_)
               intro g5 cap5 v5 hown5 hgrow5 hat5 hlt5
               have hs5:wr.heap.size+1≤v5.heap.size:=by have:=hgrow5.size;simp at this;omega
               have KA:=HK9.out.alloc (.cells #[.string ⟨kid.toArray⟩] 9)
               have K5:Hid (KeptT w v5 S):=KA.next hgrow5.os hgrow5.tape hgrow5.output hgrow5.size (fun q h1 h2=>hgrow5.block q (by have:=KA.size;omega) (by simp[Value.ownBlock];omega))
               have SE5:Hid (SeenM v5 S (out ++ [x])):=(HSE9.out.later ((Below.refl _ _).alloc (Nat.le_refl _) (.cells #[.string ⟨kid.toArray⟩] 9))).keptBy hgrow5 (by simp[Value.ownBlock];omega)
               have Q5:Hid (v5.heap[w2.heap.size]? = some (.cells #[.string ⟨t.toArray⟩,.int .i64 k,.string ⟨q.toArray⟩,.slice (some ⟨bk,offk,none⟩) ls.length c4,.string ⟨z.toArray⟩] 78 (0,0))):=(hgrow5.block _ (by have:=lt_of_block HQ9.out;simp;omega) (by simp[Value.ownBlock];omega)).trans ((Below.heap_alloc _ _ _ (lt_of_block HQ9.out)).trans HQ9.out)
               have O5:Hid (v5.ownsRow w.heap.size 9 1 (.slice (some ⟨g5,0,none⟩) (n9+1) cap5) (n9+1) (scells (td ++ [kid]))):=by rw[Hid,scells_snoc];exact hown5
               have hg5:g5=g∨w8.heap.size≤g5:=by
                rcases hat5 with h | h
                · simp only[Value.ownBlock,Option.some.injEq] at h
                  rw[←h];exact hg9
                · right;(try simp at h);omega
               have HN5:Hid (n9+1=(td ++ [kid]).length):=by rw[Hid,List.length_append,←HN9.out];rfl
               clear hown5 hgrow5 hat5 KA
               go_wp2
               go_roundw
               case rel=>exact⟨j+1,g5,cap5,n9+1,td ++ [kid],by omega,by go_num,HTD1,HN5,by omega,rfl,O5,K5,SE5,Q5,hg5,by omega⟩
               case measure=>simp[intOf];omega
           · obtain rfl:j=ls.length:=by omega
             have hji:¬ (ls.length:Int)<(ls.length:Int):=by omega
             have htd:=HTD.out
             rw[List.take_length] at htd
             have HSX:Hid (SrchR (kidsW ps) (thereN ps) R (out ++ [x]) td):=HS3.out td (fun y=>by rw[htd,HKD.out,List.mem_append])
             have HYX:Hid (∀ y∈td,y.length≤1048576):=fun y hy=>by
              rw[htd,List.mem_append] at hy
              rcases hy with h | h
              · exact HYL2.out y h
              · rcases HKL.out y (List.mem_filter.1 h).1 with e | e
                · rw[e];simp
                · omega
             have hol2:=out_le HSX.out
             have hlx:(out ++ [x]).length=out.length+1:=by simp
             rw[hlx] at hol2
             have HMS:Hid ((ps.length - (out ++ [x]).length)*17+n9<gk):=by rw[Hid,HGK.out,hlx];omega
             have hn9x:n9≤16*(out ++ [x]).length+1:=by rw[hlx];omega
             clear htd HTD HS3 HYL2
             go_wp2
             go_roundg ((ps.length - (out ++ [x]).length)*17+n9)
             case measure=>exact HMS.out
             case rel=>exact⟨out ++ [x],td,g9,c9,n9,HN9,rfl,rfl,hn9x,HO9,HSE9,HSX,HYX,HK9⟩
theorem impl_reach (mb S:Nat) (ps:List PairL) (root:Bs) (w0 w:World) (hst:storeOkL ps=true) (h400:ps.length≤400) (hM:HeldM w0 mb ps ps.length) (hB:Below w0.heap.size w0 w) (hS0:w0.heap.size≤S) (hSn:SeenM w S []) (hT:Tab w0) (hr:root.length≤1048576) :
 Calls Tryz.prog 18 #[.map (some mb),.string ⟨root.toArray⟩,.map (some S)] w fun e w'=>ReachP w0 w S ps root e w' :=
 impl_reachG mb S ps root (· = root) [] w0 w hst h400 hM hB hS0 hSn (srch_start _ _ _) hT hr
end Go.Proofs.YtokfcfcdfhoejaaGreatDoor
