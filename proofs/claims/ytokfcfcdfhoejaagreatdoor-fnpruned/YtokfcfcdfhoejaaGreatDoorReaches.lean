/-
 Texts that are laid as one: IHash, Reached.
-/
import Derived.Test.YtokfcfcdfhoejaaGreatDoorIReach
import Derived.Test.YtokfcfcdfhoejaaGreatDoorShelfX
import Derived.Maps.RangeWalk
namespace Go.Proofs.YtokfcfcdfhoejaaGreatDoor
open Go.RowKit
set_option linter.unusedVariables false
theorem own_put1 {w:World} {B e g n c:Nat} {xs:List Value} (h:w.ownsRow B e 1 (.slice (some ⟨g,0,none⟩) n c) n xs) (F:Array Bs) (hF:F.size=n) (m:Nat) (os:Array Obj) :
 (Go.Sort.grow (Go.Sort.putRow Go.Proofs.encStr (Go.Sort.ahead w m) g 0 F) os).ownsRow B e 1 (.slice (some ⟨g,0,none⟩) n c) n (scells F.toList)∧Below B w (Go.Sort.grow (Go.Sort.putRow Go.Proofs.encStr (Go.Sort.ahead w m) g 0 F) os):=by
 rcases h.2 with ⟨h1,_⟩ | ⟨g',c',cur,h1,hb,hg,hnc,hcm,hcs,htk⟩
 · cases h1
 · cases h1
   have hlt:g<w.heap.size:=lt_of_block hg
   have hh:∀ k,k<w.heap.size→(Go.Sort.grow (Go.Sort.putRow Go.Proofs.encStr (Go.Sort.ahead w m) g 0 F) os).heap[k]? = (if g=k then (w.heap[k]?).map (Go.Sort.onCells (Go.Sort.putCells Go.Proofs.encStr 0 F)) else w.heap[k]?):=by
    intro k hk
    simp only[Go.Sort.grow,Go.Sort.putRow,Go.Sort.mapBlock,Go.Sort.ahead]
    rw[Array.getElem?_append_left (by simpa using hk),Array.getElem?_modify]
   refine⟨⟨by simp[scells,hF],.inr ⟨g,c,Go.Sort.putCells Go.Proofs.encStr 0 F cur,rfl,hb,?_,hnc,hcm,?_,?_⟩⟩,⟨rfl,rfl,rfl,?_,?_⟩⟩
   · rw[hh g hlt,if_pos rfl,hg];rfl
   · simp[Go.Sort.putCells,hcs]
   · apply List.ext_getElem?
     intro t
     by_cases ht:t<n*1
     · rw[List.getElem?_take_of_lt ht,Array.getElem?_toList]
       have h1:t<cur.size:=by omega
       have h2:t<F.size:=by omega
       simp only[Go.Sort.putCells,Array.getElem?_mapIdx,Array.getElem?_eq_getElem h1,Option.map_some,Nat.zero_le,true_and,Nat.zero_add,h2,if_true,Nat.sub_zero]
       rw[getElem!_pos F t h2]
       simp[scells,h2]
     · rw[List.getElem?_eq_none (by simp;omega),List.getElem?_eq_none (by simp[scells];omega)]
   · simp[Go.Sort.grow]
   · intro k hk
     rw[hh k (by omega),if_neg (by omega)]
theorem holds1 {w:World} {B e g n c:Nat} {ns:List Bs} (h:w.ownsRow B e 1 (.slice (some ⟨g,0,none⟩) n c) n (scells ns)) (hn:n=ns.length):Go.Sort.Holds Go.Proofs.encStr w g 0 ns.toArray:=by
 subst hn
 intro t ht
 have ht':t<ns.length:=by simpa using ht
 rcases own_cases h with ⟨h1,_⟩ | ⟨g',c',h1,_,_,hc,hf⟩
 · cases h1
 · cases h1
   rw[Nat.zero_add]
   refine⟨?_,hf t⟩
   rw[hc t (by omega),getElem!_pos _ t ht]
   simp[scells,ht']
theorem sorted_texts (L out:List Bs) (h1:L.Pairwise (· ≠ ·)) (h2:∀ x,x∈L↔x∈out):L.mergeSort (fun x y=>decide (x≤y))=textsR out:=by
 have hp:=List.mergeSort_perm L (fun x y=>decide (x≤y))
 have hs:=List.pairwise_mergeSort (le:=fun x y:Bs=>decide (x≤y)) (fun a b c h1 h2=>by simp only[decide_eq_true_eq] at h1 h2 ⊢;exact List.le_trans h1 h2) (fun a b=>by
  simp only[Bool.or_eq_true,decide_eq_true_eq]
  exact List.le_total a b) L
 have hn:(L.mergeSort (fun x y=>decide (x≤y))).Pairwise (· ≠ ·):=hp.symm.pairwise h1 (fun {a b} h9=>fun e=>h9 e.symm)
 obtain⟨h3,h4⟩:=textsR_facts out
 refine texts_unique _ _ ?_ h3 (fun x=>by rw[hp.mem_iff,h2,h4])
 rw[List.pairwise_iff_getElem] at hs hn ⊢
 intro i j hi hj hij
 have a1:=hs i j hi hj hij
 have a2:=hn i j hi hj hij
 simp only[decide_eq_true_eq] at a1
 rcases tri (L.mergeSort (fun x y=>decide (x≤y)))[i] (L.mergeSort (fun x y=>decide (x≤y)))[j] with h | h | h
 · exact h
 · exact absurd h a2
 · exact absurd h a1
structure TookS (out:List Bs) (left:Lit→Bool) (L:List Bs):Prop where
 mem:∀ x:Bs,x∈L↔x.length=32∧left (keyLit x)=false∧x∈out
 keys:L.Pairwise (· ≠ ·)
theorem tookS_start {out:List Bs} (h:∀ y∈out,y.length=32):TookS out (Maps.has (datS out)) [] :=
 ⟨fun x => ⟨fun h9 => absurd h9 (by simp), fun h9 => by
  have h2:=h9.2.1
  rw[(datS_has out x h9.1 h).2 h9.2.2] at h2
  cases h2⟩,List.Pairwise.nil⟩
theorem tookS_more {out:List Bs} {left:Lit→Bool} {L:List Bs} (h:TookS out left L) (x:Bs) (hx:x.length=32) (hl:left (keyLit x)=true) (ho:x∈out):TookS out (fun z=>left z && !z.sameKey (keyLit x)) (L ++ [x]):=by
 refine⟨fun y=>?_,?_⟩
 · rw [List.mem_append, h.mem, List.mem_singleton]
   constructor
   · rintro (⟨h1,h2,h3⟩ | h1)
     · exact⟨h1,by simp[h2],h3⟩
     · subst h1
       exact⟨hx,by simp[sameKey_ne32 y y hx hx],ho⟩
   · rintro⟨h1,h2,h3⟩
     by_cases e:y=x
     · exact .inr e
     · rw[sameKey_ne32 y x h1 hx,decide_eq_false e] at h2
       simp at h2
       exact .inl ⟨h1,h2,h3⟩
 · rw[List.pairwise_append]
   refine⟨h.keys,by simp,fun p hp q hq=>?_⟩
   rw[List.mem_singleton] at hq
   subst hq
   intro e
   have:=((h.mem p).1 hp).2.1
   rw[e,hl] at this
   cases this
def mkKs (x : { l:List UInt8 // l.length=32 }):Value:=.agg (bcells x.1).toArray
def mkVs (_:Unit):Value:=.agg #[]
theorem invKs (key:Value) (kl:Lit) (h:keyOf Tryz.prog 56 key=some kl):∃ x,key=mkKs x:=by
 obtain⟨l,hl,hk,_⟩:=key_shape key kl h
 exact⟨⟨l,hl⟩,hk⟩
theorem invVs (v:Value) (y:DataW Unit × List MemPlace) (h:seR v=some y):∃ c,v=mkVs c:=⟨(),seR_inv h⟩
set_option maxRecDepth 100000 in
set_option maxHeartbeats 2000000 in
theorem impl_hashes (S : Nat) (out : List Bs) (w : World) (hl : out.length ≤ 400) (hS : SeenM w S out) (hnd : out.Pairwise (· ≠ ·)) :
 Calls Tryz.prog 22 #[.map (some S)] w fun e w'=>∃ (a:Option Addr) (m c:Nat),e=.returned (.slice a m c)∧w'.ownsRow w.heap.size 9 1 (.slice a m c) (textsR out).length (scells (textsR out))∧Below w.heap.size w w':=by
 obtain⟨i0,hi0,hz0,hz1,hz2⟩:=info_parts info9t
 obtain⟨hown,h32⟩:=hS
 have T0:Hid (TookS out (Maps.has (datS out)) []):=tookS_start h32
 have HIN:Hid (∀ x:Bs,x.length=32→Maps.has (datS out) (keyLit x)=true→x∈out):=fun x hx h=>(datS_has out x hx h32).1 h
 have HEND:Hid (∀ (left:Lit→Bool) (L:List Bs),TookS out left L→(∀ kl,left kl=false)→L.mergeSort (fun x y=>decide (x≤y))=textsR out):=fun left L h1 h2=>sorted_texts L out h1.keys (fun x=>by
  rw[h1.mem]
  exact⟨fun h=>h.2.2,fun h=>⟨h32 x h,h2 _,h⟩⟩)
 obtain⟨n,hn⟩:∃ n,n=out.length:=⟨_,rfl⟩
 obtain⟨D,hD⟩:∃ D,D=datS out:=⟨_,rfl⟩
 rw[←hn,←hD] at hown
 rw[←hD] at T0 HIN
 rw[←hn] at hl
 have hsz:Maps.size D≤n:=hown.size_le
 have hmb:=hown.lt
 clear hn hD h32 hnd
 go_enter Tryz.func22,Tryz.ntmps22
 go_wp2_with (first
  | (at_range;refine wpList_range_own _ rfl _ 51 rfl 56 53 keyedH Tryz.underlying51 seR S n D rfl hown ?_;intro w3 hrg3 hg3 hs3)
  | go_in)
 go_frame
 have Bw3:Below w.heap.size w w3:=(Below.refl _ _).grown hg3 (Nat.le_refl _) (fun k hk=>by cases hk)
 go_loopw [3] (fun l wr=>∃ (left:Lit→Bool) (cnt m c:Nat) (a:Option Addr) (L:List Bs),l=.slice a m c∧wr.ranges Tryz.prog 56 seR S w.heap.size n D left cnt∧L.length+cnt≤n∧wr.ownsRow (w.heap.size+1) 9 1 (.slice a m c) L.length (scells L)∧Hid (∀ x:Bs,x.length=32→left (keyLit x)=true→x∈out)∧Hid (TookS out left L)∧Below w.heap.size w wr∧w.heap.size+1≤wr.heap.size) (fun _ wr=>wr.rangeLeft S w.heap.size)
 case atStart =>
  exact⟨_,_,0,0,none,[],rfl,hrg3,by simpa using hsz,World.ownsRow_nil _ _ _ _,HIN,T0,Bw3,by omega⟩
 case round =>
  obtain⟨left,cnt,m,c,a,L,rfl,hrg,hLc,hrow,HLQ,HTK,hnx,hS1⟩:=hrel
  go_wp2_with (first
   | (at_next;refine wpList_next_ranges _ rfl _ rfl 56 keyedH seR mkKs mkVs invKs invVs S w.heap.size n D left cnt rfl hrg ?_ ?_)
   | go_in)
  · intro hc0 hl0
    have HE:Hid (L.mergeSort (fun x y=>decide (x≤y))=textsR out):=HEND.out left L HTK.out hl0
    rcases own_cases hrow with ⟨e9,hn0,_⟩ | ⟨g9,c9,e9,hg91,hg92,_⟩
    · have hL0:L=[]:=List.length_eq_zero_iff.1 hn0
      subst hL0
      have HM0:Hid (textsR out=[]):=by rw[Hid,←HE.out];simp
      cases e9
      have KS:=Tryz.slices_Sort_string_none none 0 wr
      clear hrow HEND HTK HLQ hrg T0 HE
      go_wp2_with fail
      refine KS.mono ?_
      rintro e w5 ⟨rfl,rfl⟩
      go_wp2
      go_ret
      exact⟨_,_,_,rfl,by rw[HM0.out];exact World.ownsRow_nil _ _ _ _,hnx⟩
    · have ea:a=some ⟨g9,0,none⟩:=by cases e9;rfl
      have em:m=L.length:=by cases e9;rfl
      subst ea em
      clear e9
      have KS:=Tryz.slices_Sort_string g9 0 c L wr (holds1 hrow rfl) hg92 (by omega)
      have HW:Hid (wr.ownsRow (w.heap.size+1) 9 1 (.slice (some ⟨g9,0,none⟩) L.length c) L.length (scells L)):=hrow
      have hlen:(textsR out).length=L.length:=by rw[←HE.out,List.length_mergeSort]
      have HLN:Hid ((textsR out).length=L.length):=hlen
      rw[HE.out] at KS
      obtain⟨TR,hTR⟩:∃ TR,TR=textsR out:=⟨_,rfl⟩
      have HTR:Hid (textsR out=TR):=hTR.symm
      rw[←hTR] at KS HLN
      clear hrow HEND HTK HLQ hrg T0 HE hlen hTR
      go_wp2_with fail
      refine KS.mono ?_
      rintro e w5 ⟨rfl,mm,os,rfl⟩
      obtain⟨o5,b5⟩:=own_put1 HW.out TR.toArray (by simp[HLN.out]) mm os
      obtain⟨w5,hw5⟩:∃ w5,w5=Go.Sort.grow (Go.Sort.putRow Go.Proofs.encStr (Go.Sort.ahead wr mm) g9 0 TR.toArray) os:=⟨_,rfl⟩
      rw[←hw5] at o5 b5 ⊢
      have O5:Hid (w5.ownsRow w.heap.size 9 1 (.slice (some ⟨g9,0,none⟩) L.length c) TR.length (scells TR)):=by rw[Hid,HLN.out];exact o5.mono (Nat.le_succ _)
      have B5:Hid (Below w.heap.size w w5):=hnx.trans (b5.mono (Nat.le_succ _))
      clear o5 b5 KS hw5
      go_wp2
      go_ret
      rw[HTR.out]
      exact⟨_,_,_,rfl,O5.out,B5.out⟩
  · intro x hx u0 kl y1 y2 w4 cnt4 hkl hlk hy hat hrg4 hlt4 hg4 hs4 hen4
    have ekl:kl=keyLit x:=by
     have h9:keyOf Tryz.prog 56 (mkKs ⟨x,hx⟩)=some (keyLit x):=key_reads x hx
     rw[h9] at hkl;exact (Option.some.inj hkl).symm
    subst ekl
    have HLQ4:Hid (∀ x':Bs,x'.length=32→(left (keyLit x') && !(keyLit x').sameKey (keyLit x))=true→x'∈out):=fun x' hx' h=>HLQ.out x' hx' (by simp at h;exact h.1)
    have HTK4:Hid (TookS out (fun z=>left z && !z.sameKey (keyLit x)) (L ++ [x])):=tookS_more HTK.out x hx hlk (HLQ.out x hx hlk)
    have R4:Hid (w4.ranges Tryz.prog 56 seR S w.heap.size n D (fun z=>left z && !z.sameKey (keyLit x)) cnt4):=hrg4
    have BW4:Hid (Below w.heap.size w w4):=hnx.grown hg4 hnx.size (fun j hj=>by cases hj;exact Nat.le_refl _)
    have O4:Hid (w4.ownsRow (w.heap.size+1) 9 1 (.slice a m c) L.length (scells L)):=hrow.kept hg4 (by
     cases a with
     | none=>exact .inl rfl
     | some q=>exact .inr (fun e=>by have h9:=hrow.lt q.block rfl;have:=Option.some.inj e;omega))
    have hcs:(bcells x).toArray.size=32:=by simp[bcells,hx]
    have h1c:(bcells x).toArray.all (·.oneCell')=true:=by
     rw[Array.all_eq_true];intro i hi;simp[bcells,Value.oneCell']
    have HG5:Hid (∀ o1:Obj,(w4.alloc o1).heap[wr.heap.size]? = some o1):=fun o1=>by rw[←hs4];exact heap_alloc_new w4 o1
    unfold mkKs mkVs at hen4
    unfold mkKs mkVs
    simp only at hen4 ⊢
    obtain⟨cs,hcd⟩:∃ cs,cs=(bcells x).toArray:=⟨_,rfl⟩
    have HCD:Hid (cs=(bcells x).toArray):=hcd
    rw[←hcd] at hen4 hcs h1c ⊢
    have HI:Hid ((Tryz.prog.info? 56).map (·.size)=some cs.size):=by rw[Hid,hcs];kernel_rfl
    clear hcd hkl hat hrg4 hy HLQ HTK HIN T0 HEND hrow
    go_wp2_with (first
     | (refine store_laid rfl 56 _ _ rfl wr.heap.size cs rfl rfl 56 _ (HG5.out _) HI.out (by rw [hcs]; rfl) h1c ?_; intro w5 hL5
        have B5:Hid (Below w4.heap.size w4 w5):=hL5.below ((Below.refl _ _).alloc (Nat.le_refl _) _) (by omega)
        have X5:Hid (w5.heap[wr.heap.size]? = some (.cells cs 56 (0,0))):=hL5.row
        have S5:Hid (w5.heap.size=wr.heap.size+1):=by rw[Hid,hL5.size];simp;omega
        have CV:(convert 22 9 (.slice (some ⟨wr.heap.size,0,none⟩) 32 32)).run Tryz.prog w5=.ok (.string ⟨x.toArray⟩) w5:=by
         have:=run_convert_bytes_back w5 22 9 5 ⟨wr.heap.size,0,none⟩ 32 x Tryz.underlying22 Tryz.underlying5 Tryz.underlying9 (fun j hj=>by
          rw[add_none,cell_of_row w5 _ j cs _ (0,0) X5.out,HCD.out]
          simp[bcells,hj])
         rw[hx] at this
         exact this
        have O5:Hid (w5.ownsRow (w.heap.size+1) 9 1 (.slice a m c) L.length (scells L)):=kept1 O4.out B5.out
        have Z5:Hid (w.heap.size+1≤(w5.alloc (.cells #[.string ⟨x.toArray⟩] 9)).heap.size):=by have:=S5.out;rw[Hid];simp;omega
        clear hL5)
     | (at_builtin;refine wpList_append_lies _ rfl _ _ 25 rfl (w.heap.size+1) 9 i0 (.string ⟨#[]⟩) 1 16 Tryz.underlying25 hi0 hz0 hz1 hz2 rfl (by decide) (.slice a m c) L.length _ rfl (O5.out.alloc _) ⟨w5.heap.size,0,none⟩ 1 1 [.string ⟨x.toArray⟩] rfl rfl (World.news_of_block (cs:=#[.string ⟨x.toArray⟩]) (t:=9) (fr:=(0,0)) (heap_alloc_new w5 _)) (by simp[Value.oneCell']) (by omega) (by unfold maxLen;omega) (by omega) Z5.out (w5.heap.size+1) (by simp) ?_;intro g7 c7 w7 hown7 hgrow7 hat7 hlt7)
     | go_in)
    have G5:∀ k,(Value.slice a m c).ownBlock=some k→w.heap.size+1≤k:=fun k hk=>(O5.out.lt k hk).1
    have BL:Below w5.heap.size w5 (w5.alloc (.cells #[.string ⟨x.toArray⟩] 9)):=(Below.refl _ _).alloc (Nat.le_refl _) _
    have R7:w7.ranges Tryz.prog 56 seR S w.heap.size n D (fun z=>left z && !z.sameKey (keyLit x)) cnt4:=((R4.out.kept (grown_of_below B5.out none) (by simp) (by simp)).kept (grown_of_below BL none) (by simp) (by simp)).kept hgrow7 (fun e=>by have:=G5 _ e.symm;omega) (fun e=>by have:=G5 _ e.symm;omega)
    have B7:Below w.heap.size w w7:=((BW4.out.trans (B5.out.mono BW4.out.size)).trans (BL.mono (by have:=BW4.out.size;have:=B5.out.size;omega))).grown hgrow7 (by have:=Z5.out;omega) (fun k hk=>by have:=G5 _ hk;omega)
    have Z7:w.heap.size+1≤w7.heap.size:=Nat.le_trans Z5.out hgrow7.size
    have O7:w7.ownsRow (w.heap.size+1) 9 1 (.slice (some ⟨g7,0,none⟩) (L.length+1) c7) (L ++ [x]).length (scells (L ++ [x])):=by rw[scells_snoc,List.length_append];exact hown7
    have HO7:=hidOwn O7
    have HR7:Hid (w7.ranges Tryz.prog 56 seR S w.heap.size n D (fun z=>left z && !z.sameKey (keyLit x)) cnt4):=R7
    clear hown7 hgrow7 hat7 O7 R7 CV
    go_wp2
    go_roundw
    case rel=>exact⟨_,cnt4,L.length+1,c7,some ⟨g7,0,none⟩,L ++ [x],rfl,HR7.out,by simp;omega,HO7.out,HLQ4,HTK4,B7,Z7⟩
    case measure=>rw[HR7.out.left_eq,hrg.left_eq];exact hlt4
theorem store_400 (ps:List PairL) (h:storeOkL ps=true):ps.length≤400:=by
 simp only[storeOkL,Bool.and_eq_true,decide_eq_true_eq] at h
 exact h.1
theorem reached_no {ps:List PairL} {root:Bs} (h:¬ storeOkL ps=true):reachedR ps root=none:=by unfold reachedR;rw[if_neg h]
theorem reached_yes {ps:List PairL} {root:Bs} (h:storeOkL ps=true):reachedR ps root=reachR ps root:=by unfold reachedR;rw[if_pos h]
theorem reach_empty {ps:List PairL} {root:Bs} (h:root=emptyL):reachR ps root=some []:=by unfold reachR;rw[if_pos h]
theorem reach_out {ps:List PairL} {root:Bs} {out:List Bs} (h:¬ root=emptyL) (hs:Srch (kidsW ps) (thereN ps) root out []):reachR ps root=some (textsR out):=by
 obtain⟨h1,h2⟩:=led_end hs
 unfold reachR
 rw[if_neg h,if_pos h2,h1]
theorem reach_lost {ps:List PairL} {root:Bs} (h:¬ root=emptyL) (hn:¬ AllThere (kidsW ps) (thereN ps) root):reachR ps root=none:=by
 unfold reachR
 rw[if_neg h,if_neg]
 rw[all_no hn]
 simp
set_option maxRecDepth 100000 in
set_option maxHeartbeats 2000000 in
theorem impl_reached (a:Option Addr) (cap:Nat) (ps:List PairL) (root:Bs) (w:World) (hT:Tab w) (hl:ps.length≤1048576) (hm:∀ p∈ps,p.1.length≤1048576∧p.2.length≤1048576) (hs:IsPairs w a ps) (hr:root.length≤1048576) :
 Calls Tryz.prog 9 #[.slice a ps.length cap,.string ⟨root.toArray⟩] w fun e w'=>RPost w (reachedR ps root) e w':=by
 have K:=impl_heldNodesV a cap ps w hT hl hm hs
 have HT:Hid (Tab w):=hT
 by_cases hok:storeOkL ps=true
 · rw[hok] at K
   rw[reached_yes hok]
   have h400:=store_400 ps hok
   have KR:Hid (∀ mb W,HeldM W mb ps ps.length→Tab W→Calls Tryz.prog 18 #[.map (some mb),.string ⟨root.toArray⟩,.map (some W.heap.size)] (W.alloc (.map #[] 0)) fun e w'=>ReachP W (W.alloc (.map #[] 0)) W.heap.size ps root e w'):=fun mb W hM hTW=>impl_reach mb W.heap.size ps root W (W.alloc (.map #[] 0)) hok h400 hM ((Below.refl _ _).alloc (Nat.le_refl _) _) (Nat.le_refl _) (seen_made W) hTW hr
   have HY:Hid (∀ out,((root=emptyL∧out=[])∨(¬ root=emptyL∧Srch (kidsW ps) (thereN ps) root out []))→reachR ps root=some (textsR out)∧out.length≤400∧out.Pairwise (· ≠ ·)):=fun out h=>by
    rcases h with ⟨h1,rfl⟩ | ⟨h1,h2⟩
    · exact⟨reach_empty h1,by simp,List.Pairwise.nil⟩
    · exact⟨reach_out h1 h2,by have:=out_le h2;omega,h2.nodup⟩
   have HN:Hid (¬ root=emptyL∧¬ AllThere (kidsW ps) (thereN ps) root→reachR ps root=none):=fun h=>reach_lost h.1 h.2
   obtain⟨res,hres⟩:∃ res,res=reachR ps root:=⟨_,rfl⟩
   rw[←hres] at HY HN ⊢
   have hmm:=@run_makeMap Tryz.prog
   clear hs hm hok hres hT
   go_enter Tryz.func9,Tryz.ntmps9
   go_wp2_with fail
   refine K.mono ?_
   rintro e w1 ⟨mb,rfl,hM,hmb,b1⟩
   have K2:=KR.out mb w1 hM (HT.out.later b1)
   have hs1:=b1.size
   clear KR hM K
   go_wp2_with fail
   refine K2.mono ?_
   rintro e w3 ⟨ok,rfl,hk,hy,hn⟩
   have B3:Hid (Below w.heap.size w w3):=⟨hk.os.trans b1.os,hk.tape.trans b1.tape,hk.output.trans b1.output,by have:=hk.size;simp at this;omega,fun q hq=>(hk.block q (by simp;omega) (by omega)).trans ((Below.heap_alloc _ _ _ (by omega)).trans (b1.block q hq))⟩
   cases ok with
   | false =>
     have HNN:Hid (res=none):=HN.out (hn rfl)
     clear hk hy hn K2 HY HN
     go_wp2
     go_ret2
     exact rp_none HNN.out B3.out
   | true =>
     obtain⟨out,hse,hor⟩:=hy rfl
     obtain⟨h1,h2,h3⟩:=HY.out out hor
     have K4:=impl_hashes w1.heap.size out w3 h2 hse h3
     have HRS:Hid (res=some (textsR out)):=h1
     clear hk hy hn K2 HY HN hse hor h1 h2 h3
     go_wp2_with fail
     refine K4.mono ?_
     rintro e w4 ⟨a4,m4,c4,rfl,o4,b4⟩
     have B4:=B3.out.trans (b4.mono B3.out.size)
     have O4:=hidOwn (o4.mono B3.out.size)
     clear o4 b4 K4
     go_wp2
     go_ret2
     rw[HRS.out]
     exact⟨a4,m4,c4,rfl,O4.out,B4⟩
 · have HN:Hid (reachedR ps root=none):=reached_no hok
   have hok':storeOkL ps=false:=by simpa using hok
   rw[hok'] at K
   obtain⟨res,hres⟩:∃ res,res=reachedR ps root:=⟨_,rfl⟩
   rw[←hres] at HN ⊢
   clear hs hm hT hok hok' hres
   go_enter Tryz.func9,Tryz.ntmps9
   go_wp2_with fail
   refine K.mono ?_
   rintro e w1 ⟨rfl,b1⟩
   go_wp2
   go_ret2
   exact rp_none HN.out b1
end Go.Proofs.YtokfcfcdfhoejaaGreatDoor
