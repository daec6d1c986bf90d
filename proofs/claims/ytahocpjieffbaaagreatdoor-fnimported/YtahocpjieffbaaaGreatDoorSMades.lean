/-
 Texts that are laid as one: SSorted, SMade.
-/
import Derived.Test.YtahocpjieffbaaaGreatDoorSBuilds
import Derived.Test.YtahocpjieffbaaaGreatDoorPairs
import Derived.Test.YtahocpjieffbaaaGreatDoorSSums
import Derived.Deep.RegionHeld3
namespace Go.Proofs.YtahocpjieffbaaaGreatDoor
open Go.RowKit
set_option linter.unusedVariables false
def stPlace:List PairL→List UInt8→Nat
 | [],_=>0
 | x :: xs,h=>if Op.bytesLess x.1 h=true then stPlace xs h+1 else 0
def stIns (out:List PairL) (p:PairL):List PairL:=if stPlace out p.1<out.length∧keyAt out (stPlace out p.1)=p.1 then out else out.take (stPlace out p.1) ++ [p] ++ out.drop (stPlace out p.1)
def sortedL (ns:List PairL):List PairL:=ns.foldl stIns []
theorem sortedL_snoc (ns:List PairL) (j:Nat) (h:j<ns.length):sortedL (ns.take (j+1))=stIns (sortedL (ns.take j)) ns[j]:=by rw[take_snocP ns j h,sortedL,List.foldl_append];rfl
theorem stPlace_le:∀ (out:List PairL) (h:List UInt8),stPlace out h≤out.length
 | [],_=>Nat.le_refl _
 | x :: xs, h => by
   simp only[stPlace]
   split
   · have:=stPlace_le xs h;simp;omega
   · omega
theorem stPlace_step:∀ (out:List PairL) (h:List UInt8) (k:Nat),k<out.length→k≤stPlace out h→Op.bytesLess (keyAt out k) h=true→k+1≤stPlace out h
 | [],_,k,hk,_,_=>by simp at hk
 | x :: xs, h, 0, _, _, hb => by
   have hb':Op.bytesLess x.1 h=true:=hb
   simp[stPlace,hb']
 | x :: xs, h, k + 1, hk, hle, hb => by
   simp only[stPlace] at hle ⊢
   split at hle
   · rename_i hx
     rw[if_pos hx]
     have hb':Op.bytesLess (keyAt xs k) h=true:=by simpa [keyAt] using hb
     have:=stPlace_step xs h k (by simpa using hk) (by omega) hb'
     omega
   · omega
theorem stPlace_stop:∀ (out:List PairL) (h:List UInt8) (k:Nat),k<out.length→k≤stPlace out h→Op.bytesLess (keyAt out k) h=false→stPlace out h=k
 | [],_,k,hk,_,_=>by simp at hk
 | x :: xs, h, 0, _, _, hb => by
   have hb':Op.bytesLess x.1 h=false:=hb
   simp[stPlace,hb']
 | x :: xs, h, k + 1, hk, hle, hb => by
   simp only[stPlace] at hle ⊢
   split at hle
   · rename_i hx
     rw[if_pos hx]
     have hb':Op.bytesLess (keyAt xs k) h=false:=by simpa [keyAt] using hb
     have:=stPlace_stop xs h k (by simpa using hk) (by omega) hb'
     omega
   · omega
theorem stIns_len (out:List PairL) (p:PairL):(stIns out p).length≤out.length+1:=by
 unfold stIns
 split
 · omega
 · have:=stPlace_le out p.1;simp;omega
theorem sorted_len (ns:List PairL):∀ j,j≤ns.length→(sortedL (ns.take j)).length≤j
 | 0,_=>by simp[sortedL]
 | j + 1, h => by
   rw[sortedL_snoc ns j (by omega)]
   have:=sorted_len ns j (by omega)
   have:=stIns_len (sortedL (ns.take j)) ns[j]
   omega
theorem own_capP {w:World} {B e g n c:Nat} {xs:List Value} (h:w.ownsRow B e 2 (.slice (some ⟨g,0,none⟩) n c) n xs):n≤c:=by
 rcases h.2 with ⟨e,_⟩ | ⟨g',cap',cur,e,_,_,hc,_⟩
 · cases e
 · cases e;exact hc
theorem own_cellP {w:World} {B e g n c:Nat} {ns:List PairL} (h:w.ownsRow B e 2 (.slice (some ⟨g,0,none⟩) n c) ns.length (pcells ns)) (j:Nat) (hj:j<ns.length):w.cell? ⟨g,j*2,none⟩=some (.string ⟨(keyAt ns j).toArray⟩)∧w.cell? ⟨g,j*2+1,none⟩=some (.string ⟨(valAt ns j).toArray⟩):=by
 have hp:=pcells_at ns j hj
 rw[keyAt_lt ns j hj,valAt_lt ns j hj]
 rcases h.2 with ⟨h',_⟩ | ⟨g',cap',cur,h',_⟩
 · cases h'
 · cases h'
   exact⟨(h.cellAt (j*2) (by omega)).trans hp.1,(h.cellAt (j*2+1) (by omega)).trans hp.2⟩
theorem flat_part {w:World} {B e g n c:Nat} {ns:List PairL} (h:w.ownsRow B e 2 (.slice (some ⟨g,0,none⟩) n c) ns.length (pcells ns)) (from0 cnt:Nat):∀ j u,(pcells ((ns.drop from0).take cnt))[j]? = some u→w.cell? ((⟨g,from0*2,none⟩:Addr).add j)=some u:=by
 intro j u hu
 have hj:=(List.getElem?_eq_some_iff.1 hu).1
 rw[pcells_length,List.length_take,List.length_drop] at hj
 have ea:(⟨g,from0*2,none⟩:Addr).add j=⟨g,from0*2+j,none⟩:=by
  simp only[Addr.add]
  split
  · rename_i h9;rw[h9];rfl
  · rfl
 rw[ea]
 have hq:j / 2<((ns.drop from0).take cnt).length:=by rw[List.length_take,List.length_drop];omega
 have hp:=pcells_at ((ns.drop from0).take cnt) (j / 2) hq
 have hn:from0+j / 2<ns.length:=by omega
 have hc:=own_cellP h (from0+j / 2) hn
 rw[keyAt_lt ns _ hn,valAt_lt ns _ hn] at hc
 simp only[List.getElem_take,List.getElem_drop] at hp
 rcases Nat.mod_two_eq_zero_or_one j with h0 | h0
 · have e1:j=j / 2*2:=by omega
   rw[e1] at hu
   rw[hp.1] at hu
   rw[show from0*2+j=(from0+j / 2)*2 by omega,←hu]
   exact hc.1
 · have e1:j=j / 2*2+1:=by omega
   rw[e1] at hu
   rw[hp.2] at hu
   rw[show from0*2+j=(from0+j / 2)*2+1 by omega,←hu]
   exact hc.2
set_option maxRecDepth 100000 in
set_option maxHeartbeats 4000000 in
theorem spec_l5Sorted (a:Option Addr) (cp:Nat) (ns:List PairL) (w:World) (hl:ns.length≤10000) (hs:IsPairs w a ns) :
 Calls Tryz.prog 52 #[.slice a ns.length cp] w fun e w'=>∃ g c:Nat,e=.returned (.slice (some ⟨g,0,none⟩) (sortedL ns).length c)∧w'.ownsRow w.heap.size 78 2 (.slice (some ⟨g,0,none⟩) (sortedL ns).length c) (sortedL ns).length (pcells (sortedL ns))∧Below w.heap.size w w':=by
 obtain⟨i0,hi0,hz0,hz1,hz2⟩:=info_parts infoStored
 have Ba:Below w.heap.size w (w.alloc (.cells #[] 78)):=(Below.refl _ _).alloc (Nat.le_refl _) _
 have O0:=hidOwn (World.ownsRow_lit (e:=78) (size:=2) w #[] 0 (base:=w.heap.size) (Nat.le_refl _) (Nat.zero_le _) rfl)
 rcases hs with rfl | ⟨b,off,rfl,hc⟩
 · have e0:sortedL []=[]:=rfl
   rw[e0]
   go_enter Tryz.func52,Tryz.ntmps52
   go_wp2
   refine wp_loop_rounds 1 ?_
   rw[rounds_succ]
   go_wp2
   go_ret
   exact⟨_,_,rfl,O0.out,Ba⟩
 · have HC : Hid (∀ j, j < ns.length → w.cell? ⟨b, off + j * 2, none⟩ = some (.string ⟨(keyAt ns j).toArray⟩) ∧ w.cell? ⟨b, off + j * 2 + 1, none⟩ = some (.string ⟨(valAt ns j).toArray⟩)) := fun j h => by rw [keyAt_lt ns j h, valAt_lt ns j h]; exact hc j h
   have HSN:Hid (∀ j,j<ns.length→sortedL (ns.take (j+1))=stIns (sortedL (ns.take j)) (keyAt ns j,valAt ns j)):=fun j h=>by rw[sortedL_snoc ns j h,keyAt_lt ns j h,valAt_lt ns j h]
   have HSL:Hid (∀ j,j≤ns.length→(sortedL (ns.take j)).length≤j):=sorted_len ns
   clear hc
   go_enter Tryz.func52,Tryz.ntmps52
   go_wp2
   go_loopw [3,4] (fun o i wr=>∃ (j g c:Nat),j≤ns.length∧i=.int .i64 (j:Int)∧o=.slice (some ⟨g,0,none⟩) (sortedL (ns.take j)).length c∧Hid (wr.ownsRow w.heap.size 78 2 (.slice (some ⟨g,0,none⟩) (sortedL (ns.take j)).length c) (sortedL (ns.take j)).length (pcells (sortedL (ns.take j))))∧Below w.heap.size w wr) (fun _ i _=>ns.length - (intOf i).toNat)
   case atStart=>exact⟨0,w.heap.size,0,Nat.zero_le _,rfl,rfl,O0,Ba⟩
   case round =>
    obtain⟨j,g,c,hj,rfl,rfl,HO,hbel⟩:=hrel
    obtain⟨wo,rfl⟩:∃ wo,wo=wr:=⟨_,rfl⟩
    have hsz:=hbel.size
    clear O0 Ba
    by_cases hlt:j<ns.length
    · obtain ⟨c1', c2'⟩ := HC.out j hlt
      have hblt:=World.block_lt_of_cell? w _ c1'
      simp only at hblt
      have HS:Hid (sortedL (ns.take (j+1))=stIns (sortedL (ns.take j)) (keyAt ns j,valAt ns j)):=HSN.out j hlt
      have hol:=HSL.out j hj
      obtain⟨h,hh⟩:∃ h,h=keyAt ns j:=⟨_,rfl⟩
      obtain⟨t,ht⟩:∃ t,t=valAt ns j:=⟨_,rfl⟩
      rw[←hh] at c1' HS
      rw[←ht] at c2' HS
      have C1:Hid (w.cell? ⟨b,off+j*2,none⟩=some (.string ⟨h.toArray⟩)):=c1'
      have C2:Hid (w.cell? ⟨b,off+j*2+1,none⟩=some (.string ⟨t.toArray⟩)):=c2'
      obtain⟨out,hout⟩:∃ out,out=sortedL (ns.take j):=⟨_,rfl⟩
      rw[←hout] at HS hol HO ⊢
      have hpl:=stPlace_le out h
      have hj1:(j:Int)<(ns.length:Int):=by omega
      have hj0':(0:Int)≤(j:Int):=by omega
      have hcap:=own_capP HO.out
      have hgl:=(HO.out.lt g rfl)
      clear hh ht c1' c2' hout HC HSN HSL
      go_wp2
      go_loopw [5] (fun kk wx=>∃ k:Nat,k≤out.length∧k≤stPlace out h∧kk=.int .i64 (k:Int)∧Below wo.heap.size wo wx) (fun kk _=>out.length - (intOf kk).toNat)
      case atStart=>exact⟨0,Nat.zero_le _,Nat.zero_le _,rfl,Below.refl _ _⟩
      case round =>
       obtain⟨k,hk,hkp,rfl,hb2⟩:=hrel
       have B2:=hbel.trans (hb2.mono hsz)
       have s2:=B2.size
       have sw2:=hb2.size
       have HO2:=hidOwn (keptN HO.out hb2)
       have c1:=(B2.cell (p:=⟨b,off+j*2,none⟩) hblt).trans C1.out
       have c2:=(B2.cell (p:=⟨b,off+j*2+1,none⟩) hblt).trans C2.out
       have hk0:(0:Int)≤(k:Int):=by omega
       by_cases hlt2:k<out.length
       · have hk1 : (k : Int) < (out.length : Int) := by omega
         obtain⟨d1,d2⟩:=own_cellP HO2.out k hlt2
         cases hless:Op.bytesLess (keyAt out k) h with
         | true =>
           have hn:=stPlace_step out h k hlt2 hkp hless
           obtain⟨z,hz⟩:∃ z,z=keyAt out k:=⟨_,rfl⟩
           rw[←hz] at d1 hless
           have hq:Op.bytesLess (⟨z.toArray⟩:ByteArray).toList (⟨h.toArray⟩:ByteArray).toList=true:=by rw[ba_toList,ba_toList];exact hless
           clear hz d2
           go_wp2
           go_quiet (fail)
           go_wp2
           go_roundw
           case rel=>exact⟨k+1,by omega,hn,by go_num,below_dk hb2⟩
           case measure=>simp[intOf];omega
         | false =>
           have hpk:=stPlace_stop out h k hlt2 hkp hless
           have HZ:Hid (stIns out (h,t)=if keyAt out k=h then out else out.take k ++ [(h,t)] ++ out.drop k):=by
            rw[Hid,stIns];simp only[hpk]
            by_cases he:keyAt out k=h
            · rw[if_pos ⟨hlt2,he⟩,if_pos he]
            · rw[if_neg (fun x=>he x.2),if_neg he]
           obtain⟨z,hz⟩:∃ z,z=keyAt out k:=⟨_,rfl⟩
           rw[←hz] at d1 hless HZ
           have hq:Op.bytesLess (⟨z.toArray⟩:ByteArray).toList (⟨h.toArray⟩:ByteArray).toList=false:=by rw[ba_toList,ba_toList];exact hless
           have B2q:∀ q q',Below w.heap.size w ((wr.drewN q).drewN q'):=fun q q'=>below_dk (below_dk B2)
           by_cases he:z=h
           · have HZ2:Hid (sortedL (ns.take (j+1))=out):=by rw[Hid,HS.out,HZ.out,if_pos he]
             clear HS HZ hz
             subst he
             go_wp2
             go_quiet (fail)
             go_wp2
             go_quiet (fail)
             go_wp2
             go_roundw
             case rel=>exact⟨j+1,g,c,by omega,by go_num,by rw[HZ2.out],by rw[HZ2.out];exact keptN HO2.out ⟨rfl,rfl,rfl,Nat.le_refl _,fun _ _=>rfl⟩,by first | exact B2q _ _ | exact below_dk B2⟩
             case measure=>simp[intOf];omega
           · have HZ2:Hid (sortedL (ns.take (j+1))=out.take k ++ [(h,t)] ++ out.drop k):=by rw[Hid,HS.out,HZ.out,if_neg he]
             have hzb:(z == h)=false:=by simp[he]
             clear HS HZ hz
             go_wp2
             go_quiet (fail)
             go_wp2
             go_quiet (fail)
             generalize hwq:(World.drewN (World.drewN wr _) _)=wq
             have Q2:Below w.heap.size w wq:=by rw[←hwq];exact below_dk (below_dk B2)
             have HOq:=hidOwn (keptN HO2.out (w':=wq) (by rw[←hwq];exact⟨rfl,rfl,rfl,Nat.le_refl _,fun _ _=>rfl⟩))
             have c1q:wq.cell? ⟨b,off+j*2,none⟩=some (.string ⟨h.toArray⟩):=(Q2.cell (p:=⟨b,off+j*2,none⟩) hblt).trans C1.out
             have c2q:wq.cell? ⟨b,off+j*2+1,none⟩=some (.string ⟨t.toArray⟩):=(Q2.cell (p:=⟨b,off+j*2+1,none⟩) hblt).trans C2.out
             have sq:=Q2.size
             have hglq:=(HOq.out.lt g rfl)
             have OL:=hidOwn (World.ownsRow_lit (e:=78) (size:=2) wq #[] 0 (base:=wq.heap.size) (Nat.le_refl _) (Nat.zero_le _) rfl)
             have QA:Below w.heap.size w (wq.alloc (.cells #[] 78)):=Q2.alloc sq _
             have HFA:Hid (∀ i u,(pcells (out.take k))[i]? = some u→(wq.alloc (.cells #[] 78)).cell? ((⟨g,0,none⟩:Addr).add i)=some u):=by
              have:=flat_part (keptN HOq.out ((Below.refl _ _).alloc (Nat.le_refl _) (.cells #[] 78))) 0 k
              rw[Hid]
              simpa using this
             have HLA:Hid ((pcells (out.take k)).length=k*2):=by rw[Hid,pcells_length,List.length_take,Nat.min_eq_left hk]
             have HLC:Hid ((pcells (out.drop k)).length=(out.length - k)*2):=by rw[Hid,pcells_length,List.length_drop]
             have HA3:Hid (∀ w3:World,(wq.alloc (.cells #[] 78)).grownBy w3 (Value.slice (some ⟨wq.heap.size,0,none⟩) 0 0).ownBlock→Below wq.heap.size wq w3∧Below w.heap.size w w3∧wq.heap.size<w3.heap.size∧w3.cell? ⟨b,off+j*2,none⟩=some (.string ⟨h.toArray⟩)∧w3.cell? ⟨b,off+j*2+1,none⟩=some (.string ⟨t.toArray⟩)):=by
              intro w3 hg3
              have Bx:Below wq.heap.size wq w3:=((Below.refl _ _).alloc (Nat.le_refl _) _).grown hg3 (by simp) (fun k hk=>by simp[Value.ownBlock] at hk;omega)
              have By:=Q2.trans (Bx.mono sq)
              exact⟨Bx,By,by have:=hg3.size;simp at this;omega,(By.cell (p:=⟨b,off+j*2,none⟩) hblt).trans C1.out,(By.cell (p:=⟨b,off+j*2+1,none⟩) hblt).trans C2.out⟩
             have HA4:Hid (∀ (w3 w4:World) (v3:Value) (n3:Nat) (x3:List Value),Below wq.heap.size wq w3→wq.heap.size<w3.heap.size→w3.ownsRow wq.heap.size 78 2 v3 n3 x3→(w3.alloc (.cells #[.string ⟨h.toArray⟩,.string ⟨t.toArray⟩] 78)).grownBy w4 v3.ownBlock→Below wq.heap.size wq w4∧wq.heap.size<w4.heap.size∧(∀ i u,(pcells (out.drop k))[i]? = some u→w4.cell? ((⟨g,k*2,none⟩:Addr).add i)=some u)):=by
              intro w3 w4 v3 n3 x3 Bx hsx ho hg4
              have Bz:Below wq.heap.size wq w4:=(Bx.alloc (by omega) _).grown hg4 (by simp;omega) (fun k hk=>(ho.lt k hk).1)
              refine⟨Bz,by have:=hg4.size;simp at this;omega,?_⟩
              have:=flat_part (keptN HOq.out Bz) k (out.length - k)
              rw[List.take_of_length_le (by rw[List.length_drop];omega)] at this
              exact this
             have hkc':(k:Int)≤(c:Int):=by omega
             have hkl':(k:Int)≤(out.length:Int):=by omega
             clear hwq HO2 HO c1 c2 B2
             have hck:¬ c=k:=by omega
             go_wp2_with (first | (at_builtin;refine wpList_append_own _ rfl _ _ 39 rfl wq.heap.size 78 i0 (.agg #[.string ⟨#[]⟩,.string ⟨#[]⟩]) 2 32 Tryz.underlying39 hi0 hz0 hz1 hz2 rfl (by decide) v4 (0+k+1) _ rfl OV4.out ⟨g,k*2,none⟩ (out.length - k) (c - k) (pcells (out.drop k)) rfl HLC.out HF4 (pone _) (by unfold maxLen;omega) (by omega) (by first | omega | (simp <;> omega)) ?_;intro v6 w6 hown6 hgrow6 hnil6) | (at_builtin;refine wpList_append_own _ rfl _ _ 39 rfl wq.heap.size 78 i0 (.agg #[.string ⟨#[]⟩,.string ⟨#[]⟩]) 2 32 Tryz.underlying39 hi0 hz0 hz1 hz2 rfl (by decide) v3 (0+k) _ rfl (OV3.out.alloc _) ⟨w3.heap.size,0,none⟩ 1 1 [.string ⟨h.toArray⟩,.string ⟨t.toArray⟩] rfl rfl (World.news_of_block (cs:=#[.string ⟨h.toArray⟩,.string ⟨t.toArray⟩]) (t:=78) (fr:=(0,0)) (heap_alloc_new w3 _)) (by simp[Value.oneCell']) (by unfold maxLen;omega) (by omega) (by first | omega | (simp <;> omega)) ?_;intro v4 w4 hown4 hgrow4 hnil4;obtain⟨B4,hs4,HF4⟩:=HA4.out w3 w4 v3 _ _ Bx3 hs3 OV3.out hgrow4;have OV4:=hidOwn hown4;clear hown4 hgrow4 hnil4 OV3) | (at_builtin;refine wpList_append_own _ rfl _ _ 39 rfl wq.heap.size 78 i0 (.agg #[.string ⟨#[]⟩,.string ⟨#[]⟩]) 2 32 Tryz.underlying39 hi0 hz0 hz1 hz2 rfl (by decide) (.slice (some ⟨wq.heap.size,0,none⟩) 0 0) 0 _ rfl OL.out ⟨g,0,none⟩ k c (pcells (out.take k)) rfl HLA.out HFA.out (pone _) (by unfold maxLen;omega) (by omega) (by first | omega | (simp <;> omega)) ?_;intro v3 w3 hown3 hgrow3 hnil3;obtain⟨Bx3,By3,hs3,c1r,c2r⟩:=HA3.out w3 hgrow3;have OV3:=hidOwn hown3;clear hown3 hgrow3 hnil3 c1q c2q))
             have B6:Below w.heap.size w w6:=Q2.trans ((B4.grown hgrow6 (by omega) (fun k hk=>(OV4.out.lt k hk).1)).mono sq)
             have HE6:Hid (w6.ownsRow w.heap.size 78 2 v6 (sortedL (ns.take (j+1))).length (pcells (sortedL (ns.take (j+1))))):=by
              have e1:(sortedL (ns.take (j+1))).length=0+k+1+(out.length - k):=by rw[HZ2.out];simp;omega
              have e2:pcells (sortedL (ns.take (j+1)))=[] ++ pcells (out.take k) ++ [.string ⟨h.toArray⟩,.string ⟨t.toArray⟩] ++ pcells (out.drop k):=by rw[HZ2.out,pcells_app,pcells_app];rfl
              rw[Hid,e1,e2]
              have:=hown6.mono sq
              first | exact this | (rw[hdk.out] at *;simpa [pcells] using this)
             obtain⟨g6,c6,rfl⟩:∃ g6 c6,v6=.slice (some ⟨g6,0,none⟩) (sortedL (ns.take (j+1))).length c6:=by
              rcases own_cases2 HE6.out with ⟨e,hn,_⟩ | ⟨g6,c6,e,_⟩
              · exfalso;rw[HZ2.out] at hn;simp at hn
              · exact⟨g6,c6,e⟩
             clear hown6 hgrow6 hnil6 HA3 HA4 HFA HLA HLC OL OV4 HZ2
             go_wp2
             go_roundw
             case rel=>exact⟨j+1,g6,c6,by omega,by go_num,rfl,HE6,B6⟩
             case measure=>simp[intOf];omega
       · have hk1:¬ (k:Int)<(out.length:Int):=by omega
         have hko:k=out.length:=by omega
         have hpk:stPlace out h=k:=by omega
         have HZ2:Hid (sortedL (ns.take (j+1))=out.take k ++ [(h,t)] ++ out.drop k):=by
          rw[Hid,HS.out,stIns];simp only[hpk]
          rw[if_neg (fun x=>by omega)]
         have HKO:Hid (k=out.length):=hko
         clear HS hpk hko
         go_wp2
         go_quiet (fail)
         go_wp2
         go_quiet (fail)
         generalize hwq:(World.drewN (World.drewN wr _) _)=wq
         have Q2:Below w.heap.size w wq:=by rw[←hwq];exact below_dk (below_dk B2)
         have HOq:=hidOwn (keptN HO2.out (w':=wq) (by rw[←hwq];exact⟨rfl,rfl,rfl,Nat.le_refl _,fun _ _=>rfl⟩))
         have c1q:wq.cell? ⟨b,off+j*2,none⟩=some (.string ⟨h.toArray⟩):=(Q2.cell (p:=⟨b,off+j*2,none⟩) hblt).trans C1.out
         have c2q:wq.cell? ⟨b,off+j*2+1,none⟩=some (.string ⟨t.toArray⟩):=(Q2.cell (p:=⟨b,off+j*2+1,none⟩) hblt).trans C2.out
         have sq:=Q2.size
         have hglq:=(HOq.out.lt g rfl)
         have OL:=hidOwn (World.ownsRow_lit (e:=78) (size:=2) wq #[] 0 (base:=wq.heap.size) (Nat.le_refl _) (Nat.zero_le _) rfl)
         have QA:Below w.heap.size w (wq.alloc (.cells #[] 78)):=Q2.alloc sq _
         have HFA:Hid (∀ i u,(pcells (out.take k))[i]? = some u→(wq.alloc (.cells #[] 78)).cell? ((⟨g,0,none⟩:Addr).add i)=some u):=by
          have:=flat_part (keptN HOq.out ((Below.refl _ _).alloc (Nat.le_refl _) (.cells #[] 78))) 0 k
          rw[Hid]
          simpa using this
         have HLA:Hid ((pcells (out.take k)).length=k*2):=by rw[Hid,pcells_length,List.length_take,Nat.min_eq_left hk]
         have HLC:Hid ((pcells (out.drop k)).length=(out.length - k)*2):=by rw[Hid,pcells_length,List.length_drop]
         have HA3:Hid (∀ w3:World,(wq.alloc (.cells #[] 78)).grownBy w3 (Value.slice (some ⟨wq.heap.size,0,none⟩) 0 0).ownBlock→Below wq.heap.size wq w3∧Below w.heap.size w w3∧wq.heap.size<w3.heap.size∧w3.cell? ⟨b,off+j*2,none⟩=some (.string ⟨h.toArray⟩)∧w3.cell? ⟨b,off+j*2+1,none⟩=some (.string ⟨t.toArray⟩)):=by
          intro w3 hg3
          have Bx:Below wq.heap.size wq w3:=((Below.refl _ _).alloc (Nat.le_refl _) _).grown hg3 (by simp) (fun k hk=>by simp[Value.ownBlock] at hk;omega)
          have By:=Q2.trans (Bx.mono sq)
          exact⟨Bx,By,by have:=hg3.size;simp at this;omega,(By.cell (p:=⟨b,off+j*2,none⟩) hblt).trans C1.out,(By.cell (p:=⟨b,off+j*2+1,none⟩) hblt).trans C2.out⟩
         have HA4:Hid (∀ (w3 w4:World) (v3:Value) (n3:Nat) (x3:List Value),Below wq.heap.size wq w3→wq.heap.size<w3.heap.size→w3.ownsRow wq.heap.size 78 2 v3 n3 x3→(w3.alloc (.cells #[.string ⟨h.toArray⟩,.string ⟨t.toArray⟩] 78)).grownBy w4 v3.ownBlock→Below wq.heap.size wq w4∧wq.heap.size<w4.heap.size∧(∀ i u,(pcells (out.drop k))[i]? = some u→w4.cell? ((⟨g,k*2,none⟩:Addr).add i)=some u)):=by
          intro w3 w4 v3 n3 x3 Bx hsx ho hg4
          have Bz:Below wq.heap.size wq w4:=(Bx.alloc (by omega) _).grown hg4 (by simp;omega) (fun k hk=>(ho.lt k hk).1)
          refine⟨Bz,by have:=hg4.size;simp at this;omega,?_⟩
          have:=flat_part (keptN HOq.out Bz) k (out.length - k)
          rw[List.take_of_length_le (by rw[List.length_drop];omega)] at this
          exact this
         have hkc':(k:Int)≤(c:Int):=by omega
         have hkl':(k:Int)≤(out.length:Int):=by omega
         clear hwq HO2 HO c1 c2 B2
         by_cases hck:c=k
         · have hdk:Hid (out.drop k=[]):=List.drop_eq_nil_of_le (by omega)
           go_wp2_with (first | (at_builtin;refine wpList_append_own _ rfl _ _ 39 rfl wq.heap.size 78 i0 (.agg #[.string ⟨#[]⟩,.string ⟨#[]⟩]) 2 32 Tryz.underlying39 hi0 hz0 hz1 hz2 rfl (by decide) v4 (0+k+1) _ rfl OV4.out ⟨g,0,none⟩ (out.length - k) 0 (pcells (out.drop k)) rfl HLC.out (fun i u hu=>by rw[hdk.out] at hu;simp[pcells] at hu) (pone _) (by unfold maxLen;omega) (by omega) (by first | omega | (simp <;> omega)) ?_;intro v6 w6 hown6 hgrow6 hnil6) | (at_builtin;refine wpList_append_own _ rfl _ _ 39 rfl wq.heap.size 78 i0 (.agg #[.string ⟨#[]⟩,.string ⟨#[]⟩]) 2 32 Tryz.underlying39 hi0 hz0 hz1 hz2 rfl (by decide) v3 (0+k) _ rfl (OV3.out.alloc _) ⟨w3.heap.size,0,none⟩ 1 1 [.string ⟨h.toArray⟩,.string ⟨t.toArray⟩] rfl rfl (World.news_of_block (cs:=#[.string ⟨h.toArray⟩,.string ⟨t.toArray⟩]) (t:=78) (fr:=(0,0)) (heap_alloc_new w3 _)) (by simp[Value.oneCell']) (by unfold maxLen;omega) (by omega) (by first | omega | (simp <;> omega)) ?_;intro v4 w4 hown4 hgrow4 hnil4;obtain⟨B4,hs4,HF4⟩:=HA4.out w3 w4 v3 _ _ Bx3 hs3 OV3.out hgrow4;have OV4:=hidOwn hown4;clear hown4 hgrow4 hnil4 OV3) | (at_builtin;refine wpList_append_own _ rfl _ _ 39 rfl wq.heap.size 78 i0 (.agg #[.string ⟨#[]⟩,.string ⟨#[]⟩]) 2 32 Tryz.underlying39 hi0 hz0 hz1 hz2 rfl (by decide) (.slice (some ⟨wq.heap.size,0,none⟩) 0 0) 0 _ rfl OL.out ⟨g,0,none⟩ k k (pcells (out.take k)) rfl HLA.out HFA.out (pone _) (by unfold maxLen;omega) (by omega) (by first | omega | (simp <;> omega)) ?_;intro v3 w3 hown3 hgrow3 hnil3;obtain⟨Bx3,By3,hs3,c1r,c2r⟩:=HA3.out w3 hgrow3;have OV3:=hidOwn hown3;clear hown3 hgrow3 hnil3 c1q c2q))
           have B6:Below w.heap.size w w6:=Q2.trans ((B4.grown hgrow6 (by omega) (fun k hk=>(OV4.out.lt k hk).1)).mono sq)
           have HE6:Hid (w6.ownsRow w.heap.size 78 2 v6 (sortedL (ns.take (j+1))).length (pcells (sortedL (ns.take (j+1))))):=by
            have e1:(sortedL (ns.take (j+1))).length=0+k+1+(out.length - k):=by rw[HZ2.out];simp;omega
            have e2:pcells (sortedL (ns.take (j+1)))=[] ++ pcells (out.take k) ++ [.string ⟨h.toArray⟩,.string ⟨t.toArray⟩] ++ pcells (out.drop k):=by rw[HZ2.out,pcells_app,pcells_app];rfl
            rw[Hid,e1,e2]
            have:=hown6.mono sq
            first | exact this | (rw[hdk.out] at *;simpa [pcells] using this)
           obtain⟨g6,c6,rfl⟩:∃ g6 c6,v6=.slice (some ⟨g6,0,none⟩) (sortedL (ns.take (j+1))).length c6:=by
            rcases own_cases2 HE6.out with ⟨e,hn,_⟩ | ⟨g6,c6,e,_⟩
            · exfalso;rw[HZ2.out] at hn;simp at hn
            · exact⟨g6,c6,e⟩
           clear hown6 hgrow6 hnil6 HA3 HA4 HFA HLA HLC OL OV4 HZ2
           go_wp2
           go_roundw
           case rel=>exact⟨j+1,g6,c6,by omega,by go_num,rfl,HE6,B6⟩
           case measure=>simp[intOf];omega
         · go_wp2_with (first | (at_builtin;refine wpList_append_own _ rfl _ _ 39 rfl wq.heap.size 78 i0 (.agg #[.string ⟨#[]⟩,.string ⟨#[]⟩]) 2 32 Tryz.underlying39 hi0 hz0 hz1 hz2 rfl (by decide) v4 (0+k+1) _ rfl OV4.out ⟨g,k*2,none⟩ (out.length - k) (c - k) (pcells (out.drop k)) rfl HLC.out HF4 (pone _) (by unfold maxLen;omega) (by omega) (by first | omega | (simp <;> omega)) ?_;intro v6 w6 hown6 hgrow6 hnil6) | (at_builtin;refine wpList_append_own _ rfl _ _ 39 rfl wq.heap.size 78 i0 (.agg #[.string ⟨#[]⟩,.string ⟨#[]⟩]) 2 32 Tryz.underlying39 hi0 hz0 hz1 hz2 rfl (by decide) v3 (0+k) _ rfl (OV3.out.alloc _) ⟨w3.heap.size,0,none⟩ 1 1 [.string ⟨h.toArray⟩,.string ⟨t.toArray⟩] rfl rfl (World.news_of_block (cs:=#[.string ⟨h.toArray⟩,.string ⟨t.toArray⟩]) (t:=78) (fr:=(0,0)) (heap_alloc_new w3 _)) (by simp[Value.oneCell']) (by unfold maxLen;omega) (by omega) (by first | omega | (simp <;> omega)) ?_;intro v4 w4 hown4 hgrow4 hnil4;obtain⟨B4,hs4,HF4⟩:=HA4.out w3 w4 v3 _ _ Bx3 hs3 OV3.out hgrow4;have OV4:=hidOwn hown4;clear hown4 hgrow4 hnil4 OV3) | (at_builtin;refine wpList_append_own _ rfl _ _ 39 rfl wq.heap.size 78 i0 (.agg #[.string ⟨#[]⟩,.string ⟨#[]⟩]) 2 32 Tryz.underlying39 hi0 hz0 hz1 hz2 rfl (by decide) (.slice (some ⟨wq.heap.size,0,none⟩) 0 0) 0 _ rfl OL.out ⟨g,0,none⟩ k c (pcells (out.take k)) rfl HLA.out HFA.out (pone _) (by unfold maxLen;omega) (by omega) (by first | omega | (simp <;> omega)) ?_;intro v3 w3 hown3 hgrow3 hnil3;obtain⟨Bx3,By3,hs3,c1r,c2r⟩:=HA3.out w3 hgrow3;have OV3:=hidOwn hown3;clear hown3 hgrow3 hnil3 c1q c2q))
           have B6:Below w.heap.size w w6:=Q2.trans ((B4.grown hgrow6 (by omega) (fun k hk=>(OV4.out.lt k hk).1)).mono sq)
           have HE6:Hid (w6.ownsRow w.heap.size 78 2 v6 (sortedL (ns.take (j+1))).length (pcells (sortedL (ns.take (j+1))))):=by
            have e1:(sortedL (ns.take (j+1))).length=0+k+1+(out.length - k):=by rw[HZ2.out];simp;omega
            have e2:pcells (sortedL (ns.take (j+1)))=[] ++ pcells (out.take k) ++ [.string ⟨h.toArray⟩,.string ⟨t.toArray⟩] ++ pcells (out.drop k):=by rw[HZ2.out,pcells_app,pcells_app];rfl
            rw[Hid,e1,e2]
            have:=hown6.mono sq
            first | exact this | (rw[hdk.out] at *;simpa [pcells] using this)
           obtain⟨g6,c6,rfl⟩:∃ g6 c6,v6=.slice (some ⟨g6,0,none⟩) (sortedL (ns.take (j+1))).length c6:=by
            rcases own_cases2 HE6.out with ⟨e,hn,_⟩ | ⟨g6,c6,e,_⟩
            · exfalso;rw[HZ2.out] at hn;simp at hn
            · exact⟨g6,c6,e⟩
           clear hown6 hgrow6 hnil6 HA3 HA4 HFA HLA HLC OL OV4 HZ2
           go_wp2
           go_roundw
           case rel=>exact⟨j+1,g6,c6,by omega,by go_num,rfl,HE6,B6⟩
           case measure=>simp[intOf];omega
    · obtain rfl:j=ns.length:=by omega
      have hj1:¬ (ns.length:Int)<(ns.length:Int):=by omega
      rw[List.take_length] at HO ⊢
      go_wp2
      go_ret
      exact⟨g,c,rfl,HO.out,hbel⟩
abbrev sm0 : Oper := { dst := some 32, op := Op.move (Operand.tmp 9), type := 9, pos := "l05_tries.go:116", after := #[], guard := none }
abbrev sm1 : Oper := { dst := some 33, op := Op.move (Operand.tmp 5), type := 39, pos := "l05_tries.go:116", after := #[], guard := none }
abbrev sm2 : Oper := { dst := some 34, op := Op.move (Operand.tmp 8), type := 3, pos := "l05_tries.go:116", after := #[], guard := none }
abbrev sm3 : Oper := { dst := some 35, op := Op.indexAddr 39 (Operand.tmp 33) (Operand.tmp 34), type := 0, pos := "l05_tries.go:116", after := #[{ on := 1, ground := Ground.data }, { on := 2, ground := Ground.data }], guard := none }
abbrev sm4 : Oper := { dst := some 36, op := Op.fieldAddr 78 (Operand.tmp 35) 1, type := 0, pos := "l05_tries.go:116", after := #[{ on := 3, ground := Ground.data }], guard := none }
abbrev sm5 : Oper := { dst := some 37, op := Op.load 9 (Operand.tmp 36), type := 9, pos := "l05_tries.go:116", after := #[{ on := 4, ground := Ground.data }], guard := none }
abbrev sm6 : Oper := { dst := some 38, op := Op.binOp BinOp.neq 9 (Operand.tmp 32) (Operand.tmp 37) 9, type := 4, pos := "l05_tries.go:116", after := #[{ on := 0, ground := Ground.data }, { on := 5, ground := Ground.data }], guard := none }
abbrev sm7 : Oper := { dst := some 39, op := Op.move (Operand.tmp 38), type := 4, pos := "l05_tries.go:116", after := #[{ on := 6, ground := Ground.data }], guard := none }
abbrev sm8 : Oper := { dst := some 40, op := Op.move (Operand.tmp 5), type := 39, pos := "l05_tries.go:116", after := #[{ on := 7, ground := Ground.guard }], guard := some (7, false) }
abbrev sm9 : Oper := { dst := some 41, op := Op.move (Operand.tmp 8), type := 3, pos := "l05_tries.go:116", after := #[{ on := 7, ground := Ground.guard }], guard := some (7, false) }
abbrev sm10 : Oper := { dst := some 42, op := Op.indexAddr 39 (Operand.tmp 40) (Operand.tmp 41), type := 0, pos := "l05_tries.go:116", after := #[{ on := 8, ground := Ground.data }, { on := 9, ground := Ground.data }, { on := 7, ground := Ground.guard }], guard := some (7, false) }
abbrev sm11 : Oper := { dst := some 43, op := Op.fieldAddr 78 (Operand.tmp 42) 0, type := 0, pos := "l05_tries.go:116", after := #[{ on := 10, ground := Ground.data }, { on := 7, ground := Ground.guard }], guard := some (7, false) }
abbrev sm12 : Oper := { dst := some 44, op := Op.load 9 (Operand.tmp 43), type := 9, pos := "l05_tries.go:116", after := #[{ on := 11, ground := Ground.data }, { on := 7, ground := Ground.guard }], guard := some (7, false) }
abbrev sm13 : Oper := { dst := some 46, op := Op.binOp BinOp.eql 9 (Operand.tmp 44) (Operand.tmp 45) 9, type := 4, pos := "l05_tries.go:116", after := #[{ on := 12, ground := Ground.data }, { on := 13, ground := Ground.data }, { on := 7, ground := Ground.guard }], guard := some (7, false) }
abbrev sm14 : Oper := { dst := some 47, op := Op.pick (Operand.tmp 39) (Operand.const (Value.bool true)) (Operand.tmp 46), type := 4, pos := "l05_tries.go:116", after := #[{ on := 7, ground := Ground.data }, { on := 14, ground := Ground.data }], guard := none }
abbrev sm15 : Oper := { dst := some 45, op := Op.call { callee := Callee.value (Operand.func 53), args := #[], argTypes := #[] }, type := 9, pos := "l05_tries.go:116", after := #[{ on := 7, ground := Ground.chain }, { on := 7, ground := Ground.guard }], guard := some (7, false) }
theorem tkm {P:Program} {ops:Array Oper} {Q:Exit→Act→World→Prop} {md:Region.Mode} {S:World→Prop} {i:Nat} {oi:Oper} {v:Value} {fuel:Nat} {listed:Array Bool} {a:Act} {w:World} (hi:ops[i]? = some oi) (hy:YieldsIf P ops S oi v a) (hS:S w)
 (h:wpAnyH P md ops Q S fuel (listed.setIfInBounds i true) (a.put oi.dst v) w) (hs:Region.noSelect ops=true:=by kernel_rfl) (hf:Region.free md ops listed i=true:=by kernel_rfl) (hr:(Region.ready md ops listed).contains i=true:=by kernel_rfl)
 (hQ:∀ c a w,Q (.panic c) (a.put oi.dst v) w→Q (.panic c) a w:=by exact fun _ _ _ h=>h):wpAnyH P md ops Q S (fuel+1) listed a w :=
 wpAnyH_take hi hs hf hr hQ hy hS h
def madeAt (all:List PairL) (i:Nat):Bool:=decide ((findL (sortedL all) (keyAt all i)).getD []=valAt all i) && decide (keyAt all i≠emptyL)
def madeOk (all:List PairL):Bool:=(List.range all.length).all (madeAt all)
def rootOr (all:List PairL):List UInt8:=if all=[] then emptyL else rootH all
def rootOk (ps:List PairL):Bool:=pairsOkL ps && madeOk (allL ps)
def rootR (ps:List PairL):List UInt8:=if rootOk ps then rootOr (allL ps) else []
theorem made_bad (all:List PairL) (j:Nat) (hj:j<all.length) (h:madeAt all j=false):madeOk all=false:=by
 rw[madeOk,List.all_eq_false];exact⟨j,List.mem_range.2 hj,by simp[h]⟩
theorem made_all (all:List PairL) (h:∀ j,j<all.length→madeAt all j=true):madeOk all=true:=by
 rw[madeOk,List.all_eq_true];exact fun j hj=>h j (List.mem_range.1 hj)
theorem rootOr_snoc (all:List PairL) (j:Nat) (h:j<all.length):rootOr (all.take (j+1))=keyAt all j:=by
 rw[take_snocP all j h,rootOr,if_neg (List.append_ne_nil_of_right_ne_nil _ (by simp)),rootH_snoc,keyAt_lt all j h]
set_option maxRecDepth 100000 in
set_option maxHeartbeats 4000000 in
theorem spec_l5Made (a : Option Addr) (cp : Nat) (ps : List PairL) (w : World) (hfit : fitP ps) (hs : IsPairs w a ps) :
 Calls Tryz.prog 28 #[.slice a ps.length cp] w fun e w'=>∃ (a':Option Addr) (m c:Nat),e=.returned (.tuple #[.slice a' m c,.string ⟨(if madeOk (allL ps) then rootOr (allL ps) else []).toArray⟩,.bool (madeOk (allL ps))])∧(w'.ownsRow w.heap.size 78 2 (.slice a' m c) (if madeOk (allL ps) then sortedL (allL ps) else []).length (pcells (if madeOk (allL ps) then sortedL (allL ps) else []))∧(madeOk (allL ps)=true→∃ g,a'=some ⟨g,0,none⟩))∧Below w.heap.size w w':=by
 have K1:=spec_l5All a cp ps w hfit hs
 have hal:=all_len ps hfit
 obtain⟨all,hall⟩:∃ all,all=allL ps:=⟨_,rfl⟩
 rw[←hall] at K1 hal ⊢
 have HK2:Hid (∀ a' c' W,IsPairs W a' all→Calls Tryz.prog 52 #[.slice a' all.length c'] W fun e w'=>∃ g c:Nat,e=.returned (.slice (some ⟨g,0,none⟩) (sortedL all).length c)∧w'.ownsRow W.heap.size 78 2 (.slice (some ⟨g,0,none⟩) (sortedL all).length c) (sortedL all).length (pcells (sortedL all))∧Below W.heap.size W w'):=fun a' c' W h=>spec_l5Sorted a' c' all W (by omega) h
 have hol:(sortedL all).length≤all.length:=by have:=sorted_len all all.length (Nat.le_refl _);rwa [List.take_length] at this
 have HD:Hid ((∀ j,j<all.length→madeAt all j=(decide ((findL (sortedL all) (keyAt all j)).getD []=valAt all j) && decide (keyAt all j≠emptyL)))∧(∀ j,j<all.length→madeAt all j=false→madeOk all=false)∧((∀ j,j<all.length→madeAt all j=true)→madeOk all=true)∧(∀ j,j<all.length→rootOr (all.take (j+1))=keyAt all j)):=⟨fun j _=>rfl,fun j h=>made_bad all j h,made_all all,fun j h=>rootOr_snoc all j h⟩
 obtain⟨out,hout⟩:∃ out,out=sortedL all:=⟨_,rfl⟩
 rw[←hout] at HK2 hol HD ⊢
 obtain⟨ok,hok⟩:∃ ok,ok=madeOk all:=⟨_,rfl⟩
 rw[←hok] at HD ⊢
 have HR0:Hid (rootOr (all.take 0)=emptyL):=by rw[Hid];simp[rootOr]
 clear hall hout hok hs hfit
 go_enter Tryz.func28,Tryz.ntmps28
 go_wp2_with fail
 refine K1.mono ?_
 rintro e w1 ⟨a1,c1,rfl,o1,b1⟩
 have s1:=b1.size
 have O1:=hidOwn o1
 clear K1 o1
 go_wp2_with fail
 refine (HK2.out _ _ _ (isPairs_own O1.out).2.2).mono ?_
 rintro e w2 ⟨go,co,rfl,o2,b2⟩
 have B2:=b1.trans (b2.mono s1)
 have s2:=B2.size
 have O2:=hidOwn (o2.mono s1)
 have O1b:=hidOwn (keptN O1.out b2)
 clear HK2 o2 b2 O1
 go_wp2_with fail
 refine (spec_empty w2).mono ?_
 rintro e w3 ⟨rfl,b3⟩
 have B3:=B2.trans (b3.mono s2)
 have s3:=B3.size
 have HOA:Hid (∀ W,Below w3.heap.size w3 W→W.ownsRow w.heap.size 78 2 (.slice a1 all.length c1) all.length (pcells all)):=fun W h=>keptN (keptN O1b.out b3) h
 have HOO:Hid (∀ W,Below w3.heap.size w3 W→W.ownsRow w.heap.size 78 2 (.slice (some ⟨go,0,none⟩) out.length co) out.length (pcells out)):=fun W h=>keptN (keptN O2.out b3) h
 clear O1b O2 b3
 go_wp2
 go_loopw [7,8] (fun r i wr=>∃ j:Nat,j≤all.length∧i=.int .i64 (j:Int)∧r=.string ⟨(rootOr (all.take j)).toArray⟩∧Hid (∀ q,q<j→madeAt all q=true)∧Below w3.heap.size w3 wr) (fun _ i _=>all.length - (intOf i).toNat)
 case atStart=>exact⟨0,Nat.zero_le _,rfl,by rw[HR0.out],fun q h=>by omega,Below.refl _ _⟩
 case round =>
  obtain⟨j,hj,rfl,rfl,HG,hbel⟩:=hrel
  have hsz:=hbel.size
  by_cases hlt:j<all.length
  · have OA := HOA.out _ hbel
    have OO:=HOO.out _ hbel
    obtain⟨ga,rfl⟩:∃ ga,a1=some ⟨ga,0,none⟩:=by
     rcases own_cases2 OA with ⟨_,h0,_⟩ | ⟨g',c',e,_⟩
     · omega
     · cases e;exact⟨_,rfl⟩
    obtain⟨d1,d2⟩:=own_cellP OA j hlt
    have hga:=own_lt OA
    have KF:=spec_l6Find (some ⟨go,0,none⟩) co out (keyAt all j) wr (by omega) (isPairs_own OO).2.2
    have HAT:Hid (madeAt all j=(decide ((findL out (keyAt all j)).getD []=valAt all j) && decide (keyAt all j≠emptyL))):=HD.out.1 j hlt
    have HRT:Hid (rootOr (all.take (j+1))=keyAt all j):=HD.out.2.2.2 j hlt
    obtain⟨h,hh⟩:∃ h,h=keyAt all j:=⟨_,rfl⟩
    obtain⟨t,ht⟩:∃ t,t=valAt all j:=⟨_,rfl⟩
    rw[←hh] at d1 KF HAT HRT
    rw[←ht] at d2 HAT
    obtain⟨x,hx⟩:∃ x,x=(findL out h).getD []:=⟨_,rfl⟩
    rw[←hx] at KF HAT
    have hj1:(j:Int)<(all.length:Int):=by omega
    have hj0':(0:Int)≤(j:Int):=by omega
    clear hh ht hx OA OO
    go_wp2_with fail
    refine KF.mono ?_
    rintro e w4 ⟨rfl,b4⟩
    have B4:=hbel.trans (b4.mono hsz)
    have s4:=B4.size
    have f1:=(b4.cell (p:=⟨ga,j*2,none⟩) hga).trans d1
    have f2:=(b4.cell (p:=⟨ga,j*2+1,none⟩) hga).trans d2
    have hga4:ga<w4.heap.size:=Nat.lt_of_lt_of_le hga b4.size
    have SX:Hid (w4.cell? ⟨ga,j*2,none⟩=some (.string ⟨h.toArray⟩)∧w4.cell? ⟨ga,j*2+1,none⟩=some (.string ⟨t.toArray⟩)):=⟨f1,f2⟩
    have KE:=spec_empty w4.drew
    clear KF b4 d1 d2
    by_cases hxt:x=t
    · have hxt':t=x:=hxt.symm
      clear hxt
      subst hxt'
      by_cases hhe:h=emptyL
      · obtain rfl:ok=false:=HD.out.2.1 j hlt (by rw[HAT.out];simp[hhe])
        obtain⟨em,hem⟩:∃ em,em=emptyL:=⟨_,rfl⟩
        rw[←hem] at KE hhe
        clear hem HD HAT
        subst hhe
        go_wp2_with fail
        refine wp_region_held_drew (S:=fun w'=>w'.cell? ⟨ga,j*2,none⟩=some (.string ⟨h.toArray⟩)∧w'.cell? ⟨ga,j*2+1,none⟩=some (.string ⟨t.toArray⟩)) (by kernel_rfl) SX.out (fun hHeld=>?_)
        refine tkm (i:=0) (oi:=sm0) (v:=?vb0) rfl (.inl ⟨by rfl,?yb0⟩) (by assumption) ?rb0
        case yb0=>(intro w hSw;(try dsimp only at hSw);go_simp;(try with_reducible rfl))
        try simp only[Act.put,List.setIfInBounds_toArray,List.set_cons_zero,List.set_cons_succ]
        refine tkm (i:=1) (oi:=sm1) (v:=?vb1) rfl (.inl ⟨by rfl,?yb1⟩) (by assumption) ?rb1
        case yb1=>(intro w hSw;(try dsimp only at hSw);go_simp;(try with_reducible rfl))
        try simp only[Act.put,List.setIfInBounds_toArray,List.set_cons_zero,List.set_cons_succ]
        refine tkm (i:=2) (oi:=sm2) (v:=?vb2) rfl (.inl ⟨by rfl,?yb2⟩) (by assumption) ?rb2
        case yb2=>(intro w hSw;(try dsimp only at hSw);go_simp;(try with_reducible rfl))
        try simp only[Act.put,List.setIfInBounds_toArray,List.set_cons_zero,List.set_cons_succ]
        refine tkm (i:=3) (oi:=sm3) (v:=?vb3) rfl (.inl ⟨by rfl,?yb3⟩) (by assumption) ?rb3
        case yb3=>(intro w hSw;(try dsimp only at hSw);go_simp;(try with_reducible rfl))
        try simp only[Act.put,List.setIfInBounds_toArray,List.set_cons_zero,List.set_cons_succ]
        refine tkm (i:=4) (oi:=sm4) (v:=?vb4) rfl (.inl ⟨by rfl,?yb4⟩) (by assumption) ?rb4
        case yb4=>(intro w hSw;(try dsimp only at hSw);go_simp;(try with_reducible rfl))
        try simp only[Act.put,List.setIfInBounds_toArray,List.set_cons_zero,List.set_cons_succ]
        refine tkm (i:=5) (oi:=sm5) (v:=?vb5) rfl (.inl ⟨by rfl,?yb5⟩) (by assumption) ?rb5
        case yb5=>(intro w hSw;(try dsimp only at hSw);go_simp;(try with_reducible rfl))
        try simp only[Act.put,List.setIfInBounds_toArray,List.set_cons_zero,List.set_cons_succ]
        refine tkm (i:=6) (oi:=sm6) (v:=?vb6) rfl (.inl ⟨by rfl,?yb6⟩) (by assumption) ?rb6
        case yb6=>(intro w hSw;(try dsimp only at hSw);go_simp;(try with_reducible rfl))
        try simp only[Act.put,List.setIfInBounds_toArray,List.set_cons_zero,List.set_cons_succ]
        refine tkm (i:=7) (oi:=sm7) (v:=?vb7) rfl (.inl ⟨by rfl,?yb7⟩) (by assumption) ?rb7
        case yb7=>(intro w hSw;(try dsimp only at hSw);go_simp;(try with_reducible rfl))
        try simp only[Act.put,List.setIfInBounds_toArray,List.set_cons_zero,List.set_cons_succ]
        refine tkm (i:=8) (oi:=sm8) (v:=?vb8) rfl (.inl ⟨by rfl,?yb8⟩) (by assumption) ?rb8
        case yb8=>(intro w hSw;(try dsimp only at hSw);go_simp;(try with_reducible rfl))
        try simp only[Act.put,List.setIfInBounds_toArray,List.set_cons_zero,List.set_cons_succ]
        refine tkm (i:=9) (oi:=sm9) (v:=?vb9) rfl (.inl ⟨by rfl,?yb9⟩) (by assumption) ?rb9
        case yb9=>(intro w hSw;(try dsimp only at hSw);go_simp;(try with_reducible rfl))
        try simp only[Act.put,List.setIfInBounds_toArray,List.set_cons_zero,List.set_cons_succ]
        refine tkm (i:=10) (oi:=sm10) (v:=?vb10) rfl (.inl ⟨by rfl,?yb10⟩) (by assumption) ?rb10
        case yb10=>(intro w hSw;(try dsimp only at hSw);go_simp;(try with_reducible rfl))
        try simp only[Act.put,List.setIfInBounds_toArray,List.set_cons_zero,List.set_cons_succ]
        refine tkm (i:=11) (oi:=sm11) (v:=?vb11) rfl (.inl ⟨by rfl,?yb11⟩) (by assumption) ?rb11
        case yb11=>(intro w hSw;(try dsimp only at hSw);go_simp;(try with_reducible rfl))
        try simp only[Act.put,List.setIfInBounds_toArray,List.set_cons_zero,List.set_cons_succ]
        refine tkm (i:=12) (oi:=sm12) (v:=?vb12) rfl (.inl ⟨by rfl,?yb12⟩) (by assumption) ?rb12
        case yb12=>(intro w hSw;(try dsimp only at hSw);go_simp;(try with_reducible rfl))
        try simp only[Act.put,List.setIfInBounds_toArray,List.set_cons_zero,List.set_cons_succ]
        refine wpAnyH_ready (rs:=[13]) (by kernel_rfl) (by simp) ?_
        refine AllReadyH.cons (o:=sm15) rfl (fun K hK=>?_) AllReadyH.nil
        go_simp
        go_at_call 53
        with_reducible refine KE.mono ?_
        rintro e w5 ⟨rfl,b5'⟩
        have b5:Below w4.heap.size w4 w5:=below_undrew b5'
        have S5:Hid (w5.cell? ⟨ga,j*2,none⟩=some (.string ⟨h.toArray⟩)∧w5.cell? ⟨ga,j*2+1,none⟩=some (.string ⟨t.toArray⟩)):=⟨(b5.cell (p:=⟨ga,j*2,none⟩) hga4).trans SX.out.1,(b5.cell (p:=⟨ga,j*2+1,none⟩) hga4).trans SX.out.2⟩
        have B5:=B4.trans (b5.mono s4)
        clear b5 b5'
        clear hHeld
        refine hK.out _ _ S5.out (fun hHeld=>?_)
        clear hK K
        try simp only[Act.put,List.setIfInBounds_toArray,List.set_cons_zero,List.set_cons_succ]
        refine tkm (i:=14) (oi:=sm13) (v:=?vb14) rfl (.inl ⟨by rfl,?yb14⟩) (by assumption) ?rb14
        case yb14=>(intro w hSw;(try dsimp only at hSw);go_simp;(try with_reducible rfl))
        try simp only[Act.put,List.setIfInBounds_toArray,List.set_cons_zero,List.set_cons_succ]
        refine tkm (i:=15) (oi:=sm14) (v:=?vb15) rfl (.inl ⟨by rfl,?yb15⟩) (by assumption) ?rb15
        case yb15=>(intro w hSw;(try dsimp only at hSw);go_simp;(try with_reducible rfl))
        try simp only[Act.put,List.setIfInBounds_toArray,List.set_cons_zero,List.set_cons_succ]
        refine wpAnyH_done (by kernel_rfl) ?_ _
        have BZ:=fun q=>below_dk (q:=q) (B3.trans (B5.mono s3))
        have BZ0:=B3.trans (B5.mono s3)
        go_wp2
        go_ret3
        exact⟨none,0,0,rfl,by first | exact World.ownsRow_nil _ _ _ _ | exact⟨World.ownsRow_nil _ _ _ _,fun h=>by cases h⟩,by first | exact BZ0 | exact BZ _⟩
      · have HGN:Hid (∀ q,q<j+1→madeAt all q=true):=fun q hq=>by
         by_cases hqj:q=j
         · rw[hqj,HAT.out];simp[hhe]
         · exact HG.out q (by omega)
        have hhb:(h == emptyL)=false:=by simp[hhe]
        obtain⟨em,hem⟩:∃ em,em=emptyL:=⟨_,rfl⟩
        rw[←hem] at KE hhb
        clear hem hhe HG HAT
        go_wp2_with fail
        refine wp_region_held_drew (S:=fun w'=>w'.cell? ⟨ga,j*2,none⟩=some (.string ⟨h.toArray⟩)∧w'.cell? ⟨ga,j*2+1,none⟩=some (.string ⟨t.toArray⟩)) (by kernel_rfl) SX.out (fun hHeld=>?_)
        refine tkm (i:=0) (oi:=sm0) (v:=?vc0) rfl (.inl ⟨by rfl,?yc0⟩) (by assumption) ?rc0
        case yc0=>(intro w hSw;(try dsimp only at hSw);go_simp;(try with_reducible rfl))
        try simp only[Act.put,List.setIfInBounds_toArray,List.set_cons_zero,List.set_cons_succ]
        refine tkm (i:=1) (oi:=sm1) (v:=?vc1) rfl (.inl ⟨by rfl,?yc1⟩) (by assumption) ?rc1
        case yc1=>(intro w hSw;(try dsimp only at hSw);go_simp;(try with_reducible rfl))
        try simp only[Act.put,List.setIfInBounds_toArray,List.set_cons_zero,List.set_cons_succ]
        refine tkm (i:=2) (oi:=sm2) (v:=?vc2) rfl (.inl ⟨by rfl,?yc2⟩) (by assumption) ?rc2
        case yc2=>(intro w hSw;(try dsimp only at hSw);go_simp;(try with_reducible rfl))
        try simp only[Act.put,List.setIfInBounds_toArray,List.set_cons_zero,List.set_cons_succ]
        refine tkm (i:=3) (oi:=sm3) (v:=?vc3) rfl (.inl ⟨by rfl,?yc3⟩) (by assumption) ?rc3
        case yc3=>(intro w hSw;(try dsimp only at hSw);go_simp;(try with_reducible rfl))
        try simp only[Act.put,List.setIfInBounds_toArray,List.set_cons_zero,List.set_cons_succ]
        refine tkm (i:=4) (oi:=sm4) (v:=?vc4) rfl (.inl ⟨by rfl,?yc4⟩) (by assumption) ?rc4
        case yc4=>(intro w hSw;(try dsimp only at hSw);go_simp;(try with_reducible rfl))
        try simp only[Act.put,List.setIfInBounds_toArray,List.set_cons_zero,List.set_cons_succ]
        refine tkm (i:=5) (oi:=sm5) (v:=?vc5) rfl (.inl ⟨by rfl,?yc5⟩) (by assumption) ?rc5
        case yc5=>(intro w hSw;(try dsimp only at hSw);go_simp;(try with_reducible rfl))
        try simp only[Act.put,List.setIfInBounds_toArray,List.set_cons_zero,List.set_cons_succ]
        refine tkm (i:=6) (oi:=sm6) (v:=?vc6) rfl (.inl ⟨by rfl,?yc6⟩) (by assumption) ?rc6
        case yc6=>(intro w hSw;(try dsimp only at hSw);go_simp;(try with_reducible rfl))
        try simp only[Act.put,List.setIfInBounds_toArray,List.set_cons_zero,List.set_cons_succ]
        refine tkm (i:=7) (oi:=sm7) (v:=?vc7) rfl (.inl ⟨by rfl,?yc7⟩) (by assumption) ?rc7
        case yc7=>(intro w hSw;(try dsimp only at hSw);go_simp;(try with_reducible rfl))
        try simp only[Act.put,List.setIfInBounds_toArray,List.set_cons_zero,List.set_cons_succ]
        refine tkm (i:=8) (oi:=sm8) (v:=?vc8) rfl (.inl ⟨by rfl,?yc8⟩) (by assumption) ?rc8
        case yc8=>(intro w hSw;(try dsimp only at hSw);go_simp;(try with_reducible rfl))
        try simp only[Act.put,List.setIfInBounds_toArray,List.set_cons_zero,List.set_cons_succ]
        refine tkm (i:=9) (oi:=sm9) (v:=?vc9) rfl (.inl ⟨by rfl,?yc9⟩) (by assumption) ?rc9
        case yc9=>(intro w hSw;(try dsimp only at hSw);go_simp;(try with_reducible rfl))
        try simp only[Act.put,List.setIfInBounds_toArray,List.set_cons_zero,List.set_cons_succ]
        refine tkm (i:=10) (oi:=sm10) (v:=?vc10) rfl (.inl ⟨by rfl,?yc10⟩) (by assumption) ?rc10
        case yc10=>(intro w hSw;(try dsimp only at hSw);go_simp;(try with_reducible rfl))
        try simp only[Act.put,List.setIfInBounds_toArray,List.set_cons_zero,List.set_cons_succ]
        refine tkm (i:=11) (oi:=sm11) (v:=?vc11) rfl (.inl ⟨by rfl,?yc11⟩) (by assumption) ?rc11
        case yc11=>(intro w hSw;(try dsimp only at hSw);go_simp;(try with_reducible rfl))
        try simp only[Act.put,List.setIfInBounds_toArray,List.set_cons_zero,List.set_cons_succ]
        refine tkm (i:=12) (oi:=sm12) (v:=?vc12) rfl (.inl ⟨by rfl,?yc12⟩) (by assumption) ?rc12
        case yc12=>(intro w hSw;(try dsimp only at hSw);go_simp;(try with_reducible rfl))
        try simp only[Act.put,List.setIfInBounds_toArray,List.set_cons_zero,List.set_cons_succ]
        refine wpAnyH_ready (rs:=[13]) (by kernel_rfl) (by simp) ?_
        refine AllReadyH.cons (o:=sm15) rfl (fun K hK=>?_) AllReadyH.nil
        go_simp
        go_at_call 53
        with_reducible refine KE.mono ?_
        rintro e w5 ⟨rfl,b5'⟩
        have b5:Below w4.heap.size w4 w5:=below_undrew b5'
        have S5:Hid (w5.cell? ⟨ga,j*2,none⟩=some (.string ⟨h.toArray⟩)∧w5.cell? ⟨ga,j*2+1,none⟩=some (.string ⟨t.toArray⟩)):=⟨(b5.cell (p:=⟨ga,j*2,none⟩) hga4).trans SX.out.1,(b5.cell (p:=⟨ga,j*2+1,none⟩) hga4).trans SX.out.2⟩
        have B5:=B4.trans (b5.mono s4)
        clear b5 b5'
        clear hHeld
        refine hK.out _ _ S5.out (fun hHeld=>?_)
        clear hK K
        try simp only[Act.put,List.setIfInBounds_toArray,List.set_cons_zero,List.set_cons_succ]
        refine tkm (i:=14) (oi:=sm13) (v:=?vc14) rfl (.inl ⟨by rfl,?yc14⟩) (by assumption) ?rc14
        case yc14=>(intro w hSw;(try dsimp only at hSw);go_simp;(try with_reducible rfl))
        try simp only[Act.put,List.setIfInBounds_toArray,List.set_cons_zero,List.set_cons_succ]
        refine tkm (i:=15) (oi:=sm14) (v:=?vc15) rfl (.inl ⟨by rfl,?yc15⟩) (by assumption) ?rc15
        case yc15=>(intro w hSw;(try dsimp only at hSw);go_simp;(try with_reducible rfl))
        try simp only[Act.put,List.setIfInBounds_toArray,List.set_cons_zero,List.set_cons_succ]
        refine wpAnyH_done (by kernel_rfl) ?_ _
        go_wp2
        go_roundw
        case rel=>exact⟨j+1,by omega,by go_num,by rw[HRT.out],HGN,by first | exact B5 | exact below_dk B5⟩
        case measure=>simp[intOf];omega
    · obtain rfl:ok=false:=HD.out.2.1 j hlt (by rw[HAT.out];simp[hxt])
      have hxb:(x == t)=false:=by simp[hxt]
      clear HD HAT
      go_wp2_with fail
      refine wp_region_held_drew (S:=fun w'=>w'.cell? ⟨ga,j*2,none⟩=some (.string ⟨h.toArray⟩)∧w'.cell? ⟨ga,j*2+1,none⟩=some (.string ⟨t.toArray⟩)) (by kernel_rfl) SX.out (fun hHeld=>?_)
      refine tkm (i:=0) (oi:=sm0) (v:=?vd0) rfl (.inl ⟨by rfl,?yd0⟩) (by assumption) ?rd0
      case yd0=>(intro w hSw;(try dsimp only at hSw);go_simp;(try with_reducible rfl))
      try simp only[Act.put,List.setIfInBounds_toArray,List.set_cons_zero,List.set_cons_succ]
      refine tkm (i:=1) (oi:=sm1) (v:=?vd1) rfl (.inl ⟨by rfl,?yd1⟩) (by assumption) ?rd1
      case yd1=>(intro w hSw;(try dsimp only at hSw);go_simp;(try with_reducible rfl))
      try simp only[Act.put,List.setIfInBounds_toArray,List.set_cons_zero,List.set_cons_succ]
      refine tkm (i:=2) (oi:=sm2) (v:=?vd2) rfl (.inl ⟨by rfl,?yd2⟩) (by assumption) ?rd2
      case yd2=>(intro w hSw;(try dsimp only at hSw);go_simp;(try with_reducible rfl))
      try simp only[Act.put,List.setIfInBounds_toArray,List.set_cons_zero,List.set_cons_succ]
      refine tkm (i:=3) (oi:=sm3) (v:=?vd3) rfl (.inl ⟨by rfl,?yd3⟩) (by assumption) ?rd3
      case yd3=>(intro w hSw;(try dsimp only at hSw);go_simp;(try with_reducible rfl))
      try simp only[Act.put,List.setIfInBounds_toArray,List.set_cons_zero,List.set_cons_succ]
      refine tkm (i:=4) (oi:=sm4) (v:=?vd4) rfl (.inl ⟨by rfl,?yd4⟩) (by assumption) ?rd4
      case yd4=>(intro w hSw;(try dsimp only at hSw);go_simp;(try with_reducible rfl))
      try simp only[Act.put,List.setIfInBounds_toArray,List.set_cons_zero,List.set_cons_succ]
      refine tkm (i:=5) (oi:=sm5) (v:=?vd5) rfl (.inl ⟨by rfl,?yd5⟩) (by assumption) ?rd5
      case yd5=>(intro w hSw;(try dsimp only at hSw);go_simp;(try with_reducible rfl))
      try simp only[Act.put,List.setIfInBounds_toArray,List.set_cons_zero,List.set_cons_succ]
      refine tkm (i:=6) (oi:=sm6) (v:=?vd6) rfl (.inl ⟨by rfl,?yd6⟩) (by assumption) ?rd6
      case yd6=>(intro w hSw;(try dsimp only at hSw);go_simp;(try with_reducible rfl))
      try simp only[Act.put,List.setIfInBounds_toArray,List.set_cons_zero,List.set_cons_succ]
      refine tkm (i:=7) (oi:=sm7) (v:=?vd7) rfl (.inl ⟨by rfl,?yd7⟩) (by assumption) ?rd7
      case yd7=>(intro w hSw;(try dsimp only at hSw);go_simp;(try with_reducible rfl))
      try simp only[Act.put,List.setIfInBounds_toArray,List.set_cons_zero,List.set_cons_succ]
      refine tkm (i:=8) (oi:=sm8) (v:=undef) rfl (.inr ⟨by rfl,rfl⟩) (by assumption) ?_
      try simp only[Act.put,List.setIfInBounds_toArray,List.set_cons_zero,List.set_cons_succ]
      refine tkm (i:=9) (oi:=sm9) (v:=undef) rfl (.inr ⟨by rfl,rfl⟩) (by assumption) ?_
      try simp only[Act.put,List.setIfInBounds_toArray,List.set_cons_zero,List.set_cons_succ]
      refine tkm (i:=10) (oi:=sm10) (v:=undef) rfl (.inr ⟨by rfl,rfl⟩) (by assumption) ?_
      try simp only[Act.put,List.setIfInBounds_toArray,List.set_cons_zero,List.set_cons_succ]
      refine tkm (i:=11) (oi:=sm11) (v:=undef) rfl (.inr ⟨by rfl,rfl⟩) (by assumption) ?_
      try simp only[Act.put,List.setIfInBounds_toArray,List.set_cons_zero,List.set_cons_succ]
      refine tkm (i:=12) (oi:=sm12) (v:=undef) rfl (.inr ⟨by rfl,rfl⟩) (by assumption) ?_
      try simp only[Act.put,List.setIfInBounds_toArray,List.set_cons_zero,List.set_cons_succ]
      refine tkm (i:=13) (oi:=sm15) (v:=undef) rfl (.inr ⟨by rfl,rfl⟩) (by assumption) ?_
      try simp only[Act.put,List.setIfInBounds_toArray,List.set_cons_zero,List.set_cons_succ]
      refine tkm (i:=14) (oi:=sm13) (v:=undef) rfl (.inr ⟨by rfl,rfl⟩) (by assumption) ?_
      try simp only[Act.put,List.setIfInBounds_toArray,List.set_cons_zero,List.set_cons_succ]
      refine tkm (i:=15) (oi:=sm14) (v:=?vd15) rfl (.inl ⟨by rfl,?yd15⟩) (by assumption) ?rd15
      case yd15=>(intro w hSw;(try dsimp only at hSw);go_simp;(try with_reducible rfl))
      try simp only[Act.put,List.setIfInBounds_toArray,List.set_cons_zero,List.set_cons_succ]
      refine wpAnyH_done (by kernel_rfl) ?_ _
      have BZ:=fun q=>below_dk (q:=q) (B3.trans (B4.mono s3))
      have BZ0:=B3.trans (B4.mono s3)
      have BZ1:Below w.heap.size w w4.drew:=⟨BZ0.os,BZ0.tape,BZ0.output,BZ0.size,BZ0.block⟩
      go_wp2
      go_ret3
      exact⟨none,0,0,rfl,by first | exact World.ownsRow_nil _ _ _ _ | exact⟨World.ownsRow_nil _ _ _ _,fun h=>by cases h⟩,by first | exact BZ0 | exact BZ1 | exact BZ _⟩
  · obtain rfl:j=all.length:=by omega
    have hj1:¬ (all.length:Int)<(all.length:Int):=by omega
    obtain rfl:ok=true:=HD.out.2.2.1 HG.out
    have OO:=hidOwn (HOO.out _ hbel)
    have BZ:=B3.trans (hbel.mono s3)
    rw[List.take_length]
    clear HD HG HOA HOO
    go_wp2
    go_ret3
    exact⟨_,_,_,rfl,by first | exact⟨OO.out,fun _=>⟨_,rfl⟩⟩ | exact⟨OO.out,⟨_,rfl⟩⟩ | exact OO.out,BZ⟩
set_option maxRecDepth 100000 in
set_option maxHeartbeats 1000000 in
theorem spec_rootOf (a:Option Addr) (cp:Nat) (ps:List PairL) (w:World) (hl:ps.length≤1048576) (hm:∀ p∈ps,p.1.length≤1048576∧p.2.length≤1048576) (hs:IsPairs w a ps) :
 Calls Tryz.prog 9 #[.slice a ps.length cp] w fun e w'=>e=.returned (.tuple #[.string ⟨(rootR ps).toArray⟩,.bool (rootOk ps)])∧Below w.heap.size w w':=by
 have K1:=spec_pairsOk a cp ps w hl hm hs
 cases hp:pairsOkL ps with
 | false =>
   have e1:rootOk ps=false:=by simp[rootOk,hp]
   have e2:rootR ps=[]:=by simp[rootR,e1]
   rw[hp] at K1
   rw[e1,e2]
   clear hs hm hp e1 e2
   go_enter Tryz.func9,Tryz.ntmps9
   go_wp2_with fail
   refine K1.mono ?_
   rintro e w1 ⟨rfl,b1⟩
   go_wp2
   go_ret2
   exact⟨rfl,b1⟩
 | true =>
   have e1:rootOk ps=madeOk (allL ps):=by simp[rootOk,hp]
   have e2:rootR ps=if madeOk (allL ps) then rootOr (allL ps) else []:=by simp[rootR,e1]
   rw[hp] at K1
   have HK2:Hid (∀ W,Below w.heap.size w W→_):=fun W hW=>spec_l5Made a cp ps W (fit_of ps hp) (hs.later hW)
   rw[e1,e2]
   obtain⟨r,hr⟩:∃ r,r=(if madeOk (allL ps) then rootOr (allL ps) else []):=⟨_,rfl⟩
   obtain⟨ok,hok⟩:∃ ok,ok=madeOk (allL ps):=⟨_,rfl⟩
   rw[←hr] at HK2 ⊢
   rw[←hok] at HK2 ⊢
   clear hs hm hp e1 e2 hr hok
   go_enter Tryz.func9,Tryz.ntmps9
   go_wp2_with fail
   refine K1.mono ?_
   rintro e w1 ⟨rfl,b1⟩
   go_wp2_with fail
   refine (HK2.out w1 b1).mono ?_
   rintro e w2 ⟨a2,m2,c2,rfl,_,b2⟩
   have B2:=b1.trans (b2.mono b1.size)
   go_wp2
   go_ret2
   exact⟨rfl,B2⟩
end Go.Proofs.YtahocpjieffbaaaGreatDoor
