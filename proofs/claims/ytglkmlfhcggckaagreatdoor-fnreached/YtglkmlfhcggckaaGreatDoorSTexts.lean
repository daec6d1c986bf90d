/-
 Contract: the model's texts by their bytes, each once (l7Texts; written by mktexts.py).
-/
import Derived.Test.YtglkmlfhcggckaaGreatDoorReachM
import Derived.Test.YtglkmlfhcggckaaGreatDoorAddM
namespace Go.Proofs.YtglkmlfhcggckaaGreatDoor
open Go.RowKit
set_option linter.unusedVariables false
def tAt (ls:List Bs) (j:Nat):Bs:=ls.getD j []
theorem tAt_lt (ls:List Bs) (j:Nat) (h:j<ls.length):tAt ls j=ls[j]:=by simp[tAt,h]
theorem soneT (qs:List Bs):∀ u∈scells qs,u.oneCell'=true:=by
 intro u hu
 obtain⟨x,_,rfl⟩:=List.mem_map.1 hu
 rfl
theorem scells_app (a b:List Bs):scells (a ++ b)=scells a ++ scells b:=by simp[scells]
theorem textsR_snoc (ns:List Bs) (j:Nat) (h:j<ns.length):textsR (ns.take (j+1))=txIns (textsR (ns.take j)) (tAt ns j):=by
 rw[List.take_succ_eq_append_getElem h,textsR,List.foldl_append,tAt_lt ns j h];rfl
theorem txPlace_le:∀ (out:List Bs) (h:Bs),txPlace out h≤out.length
 | [],_=>Nat.le_refl _
 | x :: xs, h => by
   simp only[txPlace]
   split
   · have:=txPlace_le xs h;simp;omega
   · omega
theorem txPlace_step:∀ (out:List Bs) (h:Bs) (k:Nat),k<out.length→k≤txPlace out h→Op.bytesLess (tAt out k) h=true→k+1≤txPlace out h
 | [],_,k,hk,_,_=>by simp at hk
 | x :: xs, h, 0, _, _, hb => by
   have hb':Op.bytesLess x h=true:=hb
   simp[txPlace,hb']
 | x :: xs, h, k + 1, hk, hle, hb => by
   simp only[txPlace] at hle ⊢
   split at hle
   · rename_i hx
     rw[if_pos hx]
     have hb':Op.bytesLess (tAt xs k) h=true:=by simpa [tAt] using hb
     have:=txPlace_step xs h k (by simpa using hk) (by omega) hb'
     omega
   · omega
theorem txPlace_stop:∀ (out:List Bs) (h:Bs) (k:Nat),k<out.length→k≤txPlace out h→Op.bytesLess (tAt out k) h=false→txPlace out h=k
 | [],_,k,hk,_,_=>by simp at hk
 | x :: xs, h, 0, _, _, hb => by
   have hb':Op.bytesLess x h=false:=hb
   simp[txPlace,hb']
 | x :: xs, h, k + 1, hk, hle, hb => by
   simp only[txPlace] at hle ⊢
   split at hle
   · rename_i hx
     rw[if_pos hx]
     have hb':Op.bytesLess (tAt xs k) h=false:=by simpa [tAt] using hb
     have:=txPlace_stop xs h k (by simpa using hk) (by omega) hb'
     omega
   · omega
theorem txIns_if (out:List Bs) (t:Bs):txIns out t=if txPlace out t<out.length∧tAt out (txPlace out t)=t then out else out.take (txPlace out t) ++ [t] ++ out.drop (txPlace out t):=by
 unfold txIns
 by_cases h:txPlace out t<out.length
 · rw[tAt_lt out _ h,List.getElem?_eq_getElem h]
   by_cases e:out[txPlace out t]=t
   · rw[if_pos (by rw[e]),if_pos ⟨h,e⟩]
   · rw[if_neg (fun x=>e (Option.some.inj x)),if_neg (fun x=>e x.2)]
 · rw[List.getElem?_eq_none (by omega),if_neg (by simp),if_neg (fun x=>h x.1)]
theorem textsR_len (ns:List Bs):∀ j,j≤ns.length→(textsR (ns.take j)).length≤j
 | 0,_=>by simp[textsR]
 | j + 1, h => by
   rw[textsR_snoc ns j (by omega)]
   have h1:=textsR_len ns j (by omega)
   have h2:=txPlace_le (textsR (ns.take j)) (tAt ns j)
   rw[txIns_if]
   split
   · omega
   · simp;omega
theorem own_cap7 {w:World} {B e g n c:Nat} {xs:List Value} (h:w.ownsRow B e 1 (.slice (some ⟨g,0,none⟩) n c) n xs):n≤c:=by
 rcases h.2 with ⟨e,_⟩ | ⟨g',cap',cur,e,_,_,hc,_⟩
 · cases e
 · cases e;exact hc
theorem own_cellT {w:World} {B e g n c:Nat} {ns:List Bs} (h:w.ownsRow B e 1 (.slice (some ⟨g,0,none⟩) n c) ns.length (scells ns)) (j:Nat) (hj:j<ns.length):w.cell? ⟨g,j,none⟩=some (.string ⟨(tAt ns j).toArray⟩):=by
 rw[tAt_lt ns j hj]
 rcases h.2 with ⟨h',_⟩ | ⟨g',cap',cur,h',_⟩
 · cases h'
 · cases h'
   exact (h.cellAt j (by omega)).trans (scells_at ns j hj)
theorem flat_partT {w:World} {B e g n c:Nat} {ns:List Bs} (h:w.ownsRow B e 1 (.slice (some ⟨g,0,none⟩) n c) ns.length (scells ns)) (from0 cnt:Nat):∀ j u,(scells ((ns.drop from0).take cnt))[j]? = some u→w.cell? ((⟨g,from0,none⟩:Addr).add j)=some u:=by
 intro j u hu
 have hj:=(List.getElem?_eq_some_iff.1 hu).1
 rw[scells_length] at hj
 have hj2:=hj
 rw[List.length_take,List.length_drop] at hj2
 have ea:(⟨g,from0,none⟩:Addr).add j=⟨g,from0+j,none⟩:=by
  simp only[Addr.add]
  split
  · rename_i h9;rw[h9];rfl
  · rfl
 rw[ea]
 rw[scells_at _ j hj] at hu
 have hc:=own_cellT h (from0+j) (by omega)
 rw[tAt_lt ns _ (by omega)] at hc
 rw[hc,←hu]
 simp
set_option maxRecDepth 100000 in
set_option maxHeartbeats 4000000 in
theorem spec_l7Texts (a:Option Addr) (cp:Nat) (ns:List Bs) (w:World) (hl:ns.length≤10000) (hs:IsStrs w a ns) :
 Calls Tryz.prog 38 #[.slice a ns.length cp] w fun e w'=>∃ g c:Nat,e=.returned (.slice (some ⟨g,0,none⟩) (textsR ns).length c)∧w'.ownsRow w.heap.size 9 1 (.slice (some ⟨g,0,none⟩) (textsR ns).length c) (textsR ns).length (scells (textsR ns))∧Below w.heap.size w w':=by
 obtain⟨i0,hi0,hz0,hz1,hz2⟩:=info_parts info9i
 have Ba:Below w.heap.size w (w.alloc (.cells #[] 9)):=(Below.refl _ _).alloc (Nat.le_refl _) _
 have O0:=hidOwn (World.ownsRow_lit (e:=9) (size:=1) w #[] 0 (base:=w.heap.size) (Nat.le_refl _) (Nat.zero_le _) rfl)
 rcases hs with rfl | ⟨b,off,rfl,hc⟩
 · have e0:textsR []=[]:=rfl
   rw[e0]
   go_enter Tryz.func38,Tryz.ntmps38
   go_wp2
   refine wp_loop_rounds 1 ?_
   rw[rounds_succ]
   go_wp2
   go_ret
   exact⟨_,_,rfl,O0.out,Ba⟩
 · have HC : Hid (∀ j, j < ns.length → w.cell? ⟨b, off + j, none⟩ = some (.string ⟨(tAt ns j).toArray⟩)) := fun j h => by rw [tAt_lt ns j h]; exact hc j h
   have HSN:Hid (∀ j,j<ns.length→textsR (ns.take (j+1))=txIns (textsR (ns.take j)) (tAt ns j)):=textsR_snoc ns
   have HSL:Hid (∀ j,j≤ns.length→(textsR (ns.take j)).length≤j):=textsR_len ns
   clear hc
   go_enter Tryz.func38,Tryz.ntmps38
   go_wp2
   go_loopw [3,4] (fun o i wr=>∃ (j g c:Nat),j≤ns.length∧i=.int .i64 (j:Int)∧o=.slice (some ⟨g,0,none⟩) (textsR (ns.take j)).length c∧Hid (wr.ownsRow w.heap.size 9 1 (.slice (some ⟨g,0,none⟩) (textsR (ns.take j)).length c) (textsR (ns.take j)).length (scells (textsR (ns.take j))))∧Below w.heap.size w wr) (fun _ i _=>ns.length - (intOf i).toNat)
   case atStart=>exact⟨0,w.heap.size,0,Nat.zero_le _,rfl,rfl,O0,Ba⟩
   case round =>
    obtain⟨j,g,c,hj,rfl,rfl,HO,hbel⟩:=hrel
    obtain⟨wo,rfl⟩:∃ wo,wo=wr:=⟨_,rfl⟩
    have hsz:=hbel.size
    clear O0 Ba
    by_cases hlt:j<ns.length
    · have c1' := HC.out j hlt
      have hblt:=World.block_lt_of_cell? w _ c1'
      simp only at hblt
      have HS:Hid (textsR (ns.take (j+1))=txIns (textsR (ns.take j)) (tAt ns j)):=HSN.out j hlt
      have hol:=HSL.out j hj
      obtain⟨h,hh⟩:∃ h,h=tAt ns j:=⟨_,rfl⟩
      rw[←hh] at c1' HS
      have C1:Hid (w.cell? ⟨b,off+j,none⟩=some (.string ⟨h.toArray⟩)):=c1'
      obtain⟨out,hout⟩:∃ out,out=textsR (ns.take j):=⟨_,rfl⟩
      rw[←hout] at HS hol HO ⊢
      have hpl:=txPlace_le out h
      have hj1:(j:Int)<(ns.length:Int):=by omega
      have hj0':(0:Int)≤(j:Int):=by omega
      have hcap:=own_cap7 HO.out
      have hgl:=(HO.out.lt g rfl)
      clear hh c1' hout HC HSN HSL
      go_wp2
      go_loopw [5] (fun kk wx=>∃ k:Nat,k≤out.length∧k≤txPlace out h∧kk=.int .i64 (k:Int)∧Below wo.heap.size wo wx) (fun kk _=>out.length - (intOf kk).toNat)
      case atStart=>exact⟨0,Nat.zero_le _,Nat.zero_le _,rfl,Below.refl _ _⟩
      case round =>
       obtain⟨k,hk,hkp,rfl,hb2⟩:=hrel
       have B2:=hbel.trans (hb2.mono hsz)
       have s2:=B2.size
       have sw2:=hb2.size
       have HO2:=hidOwn (keptZ HO.out hb2)
       have c1:=(B2.cell (p:=⟨b,off+j,none⟩) hblt).trans C1.out
       have hk0:(0:Int)≤(k:Int):=by omega
       by_cases hlt2:k<out.length
       · have hk1 : (k : Int) < (out.length : Int) := by omega
         have d1:=own_cellT HO2.out k hlt2
         cases hless:Op.bytesLess (tAt out k) h with
         | true =>
           have hn:=txPlace_step out h k hlt2 hkp hless
           obtain⟨z,hz⟩:∃ z,z=tAt out k:=⟨_,rfl⟩
           rw[←hz] at d1 hless
           have hq:Op.bytesLess (⟨z.toArray⟩:ByteArray).toList (⟨h.toArray⟩:ByteArray).toList=true:=by rw[ba_toList,ba_toList];exact hless
           clear hz
           go_wp2
           go_quiet (fail)
           go_wp2
           go_roundw
           case rel=>exact⟨k+1,by omega,hn,by go_num,below_dkS hb2⟩
           case measure=>simp[intOf];omega
         | false =>
           have hpk:=txPlace_stop out h k hlt2 hkp hless
           have HZ:Hid (txIns out h=if tAt out k=h then out else out.take k ++ [h] ++ out.drop k):=by
            rw[Hid,txIns_if];simp only[hpk]
            by_cases he:tAt out k=h
            · rw[if_pos ⟨hlt2,he⟩,if_pos he]
            · rw[if_neg (fun x=>he x.2),if_neg he]
           obtain⟨z,hz⟩:∃ z,z=tAt out k:=⟨_,rfl⟩
           rw[←hz] at d1 hless HZ
           have hq:Op.bytesLess (⟨z.toArray⟩:ByteArray).toList (⟨h.toArray⟩:ByteArray).toList=false:=by rw[ba_toList,ba_toList];exact hless
           have B2q:∀ q q',Below w.heap.size w ((wr.drewN q).drewN q'):=fun q q'=>below_dkS (below_dkS B2)
           by_cases he:z=h
           · have HZ2:Hid (textsR (ns.take (j+1))=out):=by rw[Hid,HS.out,HZ.out,if_pos he]
             clear HS HZ hz
             subst he
             go_wp2
             go_quiet (fail)
             go_wp2
             go_quiet (fail)
             go_wp2
             go_roundw
             case rel=>exact⟨j+1,g,c,by omega,by go_num,by rw[HZ2.out],by rw[HZ2.out];exact keptZ HO2.out ⟨rfl,rfl,rfl,Nat.le_refl _,fun _ _=>rfl⟩,by first | exact B2q _ _ | exact below_dkS B2⟩
             case measure=>simp[intOf];omega
           · have HZ2:Hid (textsR (ns.take (j+1))=out.take k ++ [h] ++ out.drop k):=by rw[Hid,HS.out,HZ.out,if_neg he]
             have hzb:(z == h)=false:=by simp[he]
             clear HS HZ hz
             go_wp2
             go_quiet (fail)
             go_wp2
             go_quiet (fail)
             generalize hwq:(World.drewN (World.drewN wr _) _)=wq
             have Q2:Below w.heap.size w wq:=by rw[←hwq];exact below_dkS (below_dkS B2)
             have HOq:=hidOwn (keptZ HO2.out (w':=wq) (by rw[←hwq];exact⟨rfl,rfl,rfl,Nat.le_refl _,fun _ _=>rfl⟩))
             have c1q:wq.cell? ⟨b,off+j,none⟩=some (.string ⟨h.toArray⟩):=(Q2.cell (p:=⟨b,off+j,none⟩) hblt).trans C1.out
             have sq:=Q2.size
             have hglq:=(HOq.out.lt g rfl)
             have OL:=hidOwn (World.ownsRow_lit (e:=9) (size:=1) wq #[] 0 (base:=wq.heap.size) (Nat.le_refl _) (Nat.zero_le _) rfl)
             have QA:Below w.heap.size w (wq.alloc (.cells #[] 9)):=Q2.alloc sq _
             have HFA:Hid (∀ i u,(scells (out.take k))[i]? = some u→(wq.alloc (.cells #[] 9)).cell? ((⟨g,0,none⟩:Addr).add i)=some u):=by
              have:=flat_partT (keptZ HOq.out ((Below.refl _ _).alloc (Nat.le_refl _) (.cells #[] 9))) 0 k
              rw[Hid]
              simpa using this
             have HLA:Hid ((scells (out.take k)).length=k*1):=by rw[Hid,scells_length,List.length_take,Nat.min_eq_left hk,Nat.mul_one]
             have HLC:Hid ((scells (out.drop k)).length=(out.length - k)*1):=by rw[Hid,scells_length,List.length_drop,Nat.mul_one]
             have HA3:Hid (∀ w3:World,(wq.alloc (.cells #[] 9)).grownBy w3 (Value.slice (some ⟨wq.heap.size,0,none⟩) 0 0).ownBlock→Below wq.heap.size wq w3∧Below w.heap.size w w3∧wq.heap.size<w3.heap.size∧w3.cell? ⟨b,off+j,none⟩=some (.string ⟨h.toArray⟩)):=by
              intro w3 hg3
              have Bx:Below wq.heap.size wq w3:=((Below.refl _ _).alloc (Nat.le_refl _) _).grown hg3 (by simp) (fun k hk=>by simp[Value.ownBlock] at hk;omega)
              have By:=Q2.trans (Bx.mono sq)
              exact⟨Bx,By,by have:=hg3.size;simp at this;omega,(By.cell (p:=⟨b,off+j,none⟩) hblt).trans C1.out⟩
             have HA4:Hid (∀ (w3 w4:World) (v3:Value) (n3:Nat) (x3:List Value),Below wq.heap.size wq w3→wq.heap.size<w3.heap.size→w3.ownsRow wq.heap.size 9 1 v3 n3 x3→(w3.alloc (.cells #[.string ⟨h.toArray⟩] 9)).grownBy w4 v3.ownBlock→Below wq.heap.size wq w4∧wq.heap.size<w4.heap.size∧(∀ i u,(scells (out.drop k))[i]? = some u→w4.cell? ((⟨g,k,none⟩:Addr).add i)=some u)):=by
              intro w3 w4 v3 n3 x3 Bx hsx ho hg4
              have Bz:Below wq.heap.size wq w4:=(Bx.alloc (by omega) _).grown hg4 (by simp;omega) (fun k hk=>(ho.lt k hk).1)
              refine⟨Bz,by have:=hg4.size;simp at this;omega,?_⟩
              have:=flat_partT (keptZ HOq.out Bz) k (out.length - k)
              rw[List.take_of_length_le (by rw[List.length_drop];omega)] at this
              exact this
             have hkc':(k:Int)≤(c:Int):=by omega
             have hkl':(k:Int)≤(out.length:Int):=by omega
             clear hwq HO2 HO c1 B2
             have hck:¬ c=k:=by omega
             go_wp2_with (first | (at_builtin;refine wpList_append_own _ rfl _ _ 27 rfl wq.heap.size 9 i0 (.string ⟨#[]⟩) 1 16 Tryz.underlying27 hi0 hz0 hz1 hz2 rfl (by decide) v4 (0+k+1) _ rfl OV4.out ⟨g,k,none⟩ (out.length - k) (c - k) (scells (out.drop k)) rfl HLC.out HF4 (soneT _) (by unfold maxLen;omega) (by omega) (by first | omega | (simp <;> omega)) ?_;intro v6 w6 hown6 hgrow6 hnil6) | (at_builtin;refine wpList_append_own _ rfl _ _ 27 rfl wq.heap.size 9 i0 (.string ⟨#[]⟩) 1 16 Tryz.underlying27 hi0 hz0 hz1 hz2 rfl (by decide) v3 (0+k) _ rfl (OV3.out.alloc _) ⟨w3.heap.size,0,none⟩ 1 1 [.string ⟨h.toArray⟩] rfl rfl (World.news_of_block (cs:=#[.string ⟨h.toArray⟩]) (t:=9) (fr:=(0,0)) (heap_alloc_new w3 _)) (by simp[Value.oneCell']) (by unfold maxLen;omega) (by omega) (by first | omega | (simp <;> omega)) ?_;intro v4 w4 hown4 hgrow4 hnil4;obtain⟨B4,hs4,HF4⟩:=HA4.out w3 w4 v3 _ _ Bx3 hs3 OV3.out hgrow4;have OV4:=hidOwn hown4;clear hown4 hgrow4 hnil4 OV3) | (at_builtin;refine wpList_append_own _ rfl _ _ 27 rfl wq.heap.size 9 i0 (.string ⟨#[]⟩) 1 16 Tryz.underlying27 hi0 hz0 hz1 hz2 rfl (by decide) (.slice (some ⟨wq.heap.size,0,none⟩) 0 0) 0 _ rfl OL.out ⟨g,0,none⟩ k c (scells (out.take k)) rfl HLA.out HFA.out (soneT _) (by unfold maxLen;omega) (by omega) (by first | omega | (simp <;> omega)) ?_;intro v3 w3 hown3 hgrow3 hnil3;obtain⟨Bx3,By3,hs3,c1r⟩:=HA3.out w3 hgrow3;have OV3:=hidOwn hown3;clear hown3 hgrow3 hnil3 c1q))
             have B6:Below w.heap.size w w6:=Q2.trans ((B4.grown hgrow6 (by omega) (fun k hk=>(OV4.out.lt k hk).1)).mono sq)
             have HE6:Hid (w6.ownsRow w.heap.size 9 1 v6 (textsR (ns.take (j+1))).length (scells (textsR (ns.take (j+1))))):=by
              have e1:(textsR (ns.take (j+1))).length=0+k+1+(out.length - k):=by rw[HZ2.out];simp;omega
              have e2:scells (textsR (ns.take (j+1)))=[] ++ scells (out.take k) ++ [.string ⟨h.toArray⟩] ++ scells (out.drop k):=by rw[HZ2.out,scells_app,scells_app];rfl
              rw[Hid,e1,e2]
              have:=hown6.mono sq
              first | exact this | (rw[hdk.out] at *;simpa [scells] using this)
             obtain⟨g6,c6,rfl⟩:∃ g6 c6,v6=.slice (some ⟨g6,0,none⟩) (textsR (ns.take (j+1))).length c6:=by
              rcases own_cases HE6.out with ⟨e,hn,_⟩ | ⟨g6,c6,e,_⟩
              · exfalso;rw[HZ2.out] at hn;simp at hn
              · exact⟨g6,c6,e⟩
             clear hown6 hgrow6 hnil6 HA3 HA4 HFA HLA HLC OL OV4 HZ2
             go_wp2
             go_roundw
             case rel=>exact⟨j+1,g6,c6,by omega,by go_num,rfl,HE6,B6⟩
             case measure=>simp[intOf];omega
       · have hk1:¬ (k:Int)<(out.length:Int):=by omega
         have hko:k=out.length:=by omega
         have hpk:txPlace out h=k:=by omega
         have HZ2:Hid (textsR (ns.take (j+1))=out.take k ++ [h] ++ out.drop k):=by
          rw[Hid,HS.out,txIns_if];simp only[hpk]
          rw[if_neg (fun x=>by omega)]
         have HKO:Hid (k=out.length):=hko
         clear HS hpk hko
         go_wp2
         go_quiet (fail)
         go_wp2
         go_quiet (fail)
         generalize hwq:(World.drewN (World.drewN wr _) _)=wq
         have Q2:Below w.heap.size w wq:=by rw[←hwq];exact below_dkS (below_dkS B2)
         have HOq:=hidOwn (keptZ HO2.out (w':=wq) (by rw[←hwq];exact⟨rfl,rfl,rfl,Nat.le_refl _,fun _ _=>rfl⟩))
         have c1q:wq.cell? ⟨b,off+j,none⟩=some (.string ⟨h.toArray⟩):=(Q2.cell (p:=⟨b,off+j,none⟩) hblt).trans C1.out
         have sq:=Q2.size
         have hglq:=(HOq.out.lt g rfl)
         have OL:=hidOwn (World.ownsRow_lit (e:=9) (size:=1) wq #[] 0 (base:=wq.heap.size) (Nat.le_refl _) (Nat.zero_le _) rfl)
         have QA:Below w.heap.size w (wq.alloc (.cells #[] 9)):=Q2.alloc sq _
         have HFA:Hid (∀ i u,(scells (out.take k))[i]? = some u→(wq.alloc (.cells #[] 9)).cell? ((⟨g,0,none⟩:Addr).add i)=some u):=by
          have:=flat_partT (keptZ HOq.out ((Below.refl _ _).alloc (Nat.le_refl _) (.cells #[] 9))) 0 k
          rw[Hid]
          simpa using this
         have HLA:Hid ((scells (out.take k)).length=k*1):=by rw[Hid,scells_length,List.length_take,Nat.min_eq_left hk,Nat.mul_one]
         have HLC:Hid ((scells (out.drop k)).length=(out.length - k)*1):=by rw[Hid,scells_length,List.length_drop,Nat.mul_one]
         have HA3:Hid (∀ w3:World,(wq.alloc (.cells #[] 9)).grownBy w3 (Value.slice (some ⟨wq.heap.size,0,none⟩) 0 0).ownBlock→Below wq.heap.size wq w3∧Below w.heap.size w w3∧wq.heap.size<w3.heap.size∧w3.cell? ⟨b,off+j,none⟩=some (.string ⟨h.toArray⟩)):=by
          intro w3 hg3
          have Bx:Below wq.heap.size wq w3:=((Below.refl _ _).alloc (Nat.le_refl _) _).grown hg3 (by simp) (fun k hk=>by simp[Value.ownBlock] at hk;omega)
          have By:=Q2.trans (Bx.mono sq)
          exact⟨Bx,By,by have:=hg3.size;simp at this;omega,(By.cell (p:=⟨b,off+j,none⟩) hblt).trans C1.out⟩
         have HA4:Hid (∀ (w3 w4:World) (v3:Value) (n3:Nat) (x3:List Value),Below wq.heap.size wq w3→wq.heap.size<w3.heap.size→w3.ownsRow wq.heap.size 9 1 v3 n3 x3→(w3.alloc (.cells #[.string ⟨h.toArray⟩] 9)).grownBy w4 v3.ownBlock→Below wq.heap.size wq w4∧wq.heap.size<w4.heap.size∧(∀ i u,(scells (out.drop k))[i]? = some u→w4.cell? ((⟨g,k,none⟩:Addr).add i)=some u)):=by
          intro w3 w4 v3 n3 x3 Bx hsx ho hg4
          have Bz:Below wq.heap.size wq w4:=(Bx.alloc (by omega) _).grown hg4 (by simp;omega) (fun k hk=>(ho.lt k hk).1)
          refine⟨Bz,by have:=hg4.size;simp at this;omega,?_⟩
          have:=flat_partT (keptZ HOq.out Bz) k (out.length - k)
          rw[List.take_of_length_le (by rw[List.length_drop];omega)] at this
          exact this
         have hkc':(k:Int)≤(c:Int):=by omega
         have hkl':(k:Int)≤(out.length:Int):=by omega
         clear hwq HO2 HO c1 B2
         by_cases hck:c=k
         · have hdk:Hid (out.drop k=[]):=List.drop_eq_nil_of_le (by omega)
           go_wp2_with (first | (at_builtin;refine wpList_append_own _ rfl _ _ 27 rfl wq.heap.size 9 i0 (.string ⟨#[]⟩) 1 16 Tryz.underlying27 hi0 hz0 hz1 hz2 rfl (by decide) v4 (0+k+1) _ rfl OV4.out ⟨g,0,none⟩ (out.length - k) 0 (scells (out.drop k)) rfl HLC.out (fun i u hu=>by rw[hdk.out] at hu;simp[scells] at hu) (soneT _) (by unfold maxLen;omega) (by omega) (by first | omega | (simp <;> omega)) ?_;intro v6 w6 hown6 hgrow6 hnil6) | (at_builtin;refine wpList_append_own _ rfl _ _ 27 rfl wq.heap.size 9 i0 (.string ⟨#[]⟩) 1 16 Tryz.underlying27 hi0 hz0 hz1 hz2 rfl (by decide) v3 (0+k) _ rfl (OV3.out.alloc _) ⟨w3.heap.size,0,none⟩ 1 1 [.string ⟨h.toArray⟩] rfl rfl (World.news_of_block (cs:=#[.string ⟨h.toArray⟩]) (t:=9) (fr:=(0,0)) (heap_alloc_new w3 _)) (by simp[Value.oneCell']) (by unfold maxLen;omega) (by omega) (by first | omega | (simp <;> omega)) ?_;intro v4 w4 hown4 hgrow4 hnil4;obtain⟨B4,hs4,HF4⟩:=HA4.out w3 w4 v3 _ _ Bx3 hs3 OV3.out hgrow4;have OV4:=hidOwn hown4;clear hown4 hgrow4 hnil4 OV3) | (at_builtin;refine wpList_append_own _ rfl _ _ 27 rfl wq.heap.size 9 i0 (.string ⟨#[]⟩) 1 16 Tryz.underlying27 hi0 hz0 hz1 hz2 rfl (by decide) (.slice (some ⟨wq.heap.size,0,none⟩) 0 0) 0 _ rfl OL.out ⟨g,0,none⟩ k k (scells (out.take k)) rfl HLA.out HFA.out (soneT _) (by unfold maxLen;omega) (by omega) (by first | omega | (simp <;> omega)) ?_;intro v3 w3 hown3 hgrow3 hnil3;obtain⟨Bx3,By3,hs3,c1r⟩:=HA3.out w3 hgrow3;have OV3:=hidOwn hown3;clear hown3 hgrow3 hnil3 c1q))
           have B6:Below w.heap.size w w6:=Q2.trans ((B4.grown hgrow6 (by omega) (fun k hk=>(OV4.out.lt k hk).1)).mono sq)
           have HE6:Hid (w6.ownsRow w.heap.size 9 1 v6 (textsR (ns.take (j+1))).length (scells (textsR (ns.take (j+1))))):=by
            have e1:(textsR (ns.take (j+1))).length=0+k+1+(out.length - k):=by rw[HZ2.out];simp;omega
            have e2:scells (textsR (ns.take (j+1)))=[] ++ scells (out.take k) ++ [.string ⟨h.toArray⟩] ++ scells (out.drop k):=by rw[HZ2.out,scells_app,scells_app];rfl
            rw[Hid,e1,e2]
            have:=hown6.mono sq
            first | exact this | (rw[hdk.out] at *;simpa [scells] using this)
           obtain⟨g6,c6,rfl⟩:∃ g6 c6,v6=.slice (some ⟨g6,0,none⟩) (textsR (ns.take (j+1))).length c6:=by
            rcases own_cases HE6.out with ⟨e,hn,_⟩ | ⟨g6,c6,e,_⟩
            · exfalso;rw[HZ2.out] at hn;simp at hn
            · exact⟨g6,c6,e⟩
           clear hown6 hgrow6 hnil6 HA3 HA4 HFA HLA HLC OL OV4 HZ2
           go_wp2
           go_roundw
           case rel=>exact⟨j+1,g6,c6,by omega,by go_num,rfl,HE6,B6⟩
           case measure=>simp[intOf];omega
         · go_wp2_with (first | (at_builtin;refine wpList_append_own _ rfl _ _ 27 rfl wq.heap.size 9 i0 (.string ⟨#[]⟩) 1 16 Tryz.underlying27 hi0 hz0 hz1 hz2 rfl (by decide) v4 (0+k+1) _ rfl OV4.out ⟨g,k,none⟩ (out.length - k) (c - k) (scells (out.drop k)) rfl HLC.out HF4 (soneT _) (by unfold maxLen;omega) (by omega) (by first | omega | (simp <;> omega)) ?_;intro v6 w6 hown6 hgrow6 hnil6) | (at_builtin;refine wpList_append_own _ rfl _ _ 27 rfl wq.heap.size 9 i0 (.string ⟨#[]⟩) 1 16 Tryz.underlying27 hi0 hz0 hz1 hz2 rfl (by decide) v3 (0+k) _ rfl (OV3.out.alloc _) ⟨w3.heap.size,0,none⟩ 1 1 [.string ⟨h.toArray⟩] rfl rfl (World.news_of_block (cs:=#[.string ⟨h.toArray⟩]) (t:=9) (fr:=(0,0)) (heap_alloc_new w3 _)) (by simp[Value.oneCell']) (by unfold maxLen;omega) (by omega) (by first | omega | (simp <;> omega)) ?_;intro v4 w4 hown4 hgrow4 hnil4;obtain⟨B4,hs4,HF4⟩:=HA4.out w3 w4 v3 _ _ Bx3 hs3 OV3.out hgrow4;have OV4:=hidOwn hown4;clear hown4 hgrow4 hnil4 OV3) | (at_builtin;refine wpList_append_own _ rfl _ _ 27 rfl wq.heap.size 9 i0 (.string ⟨#[]⟩) 1 16 Tryz.underlying27 hi0 hz0 hz1 hz2 rfl (by decide) (.slice (some ⟨wq.heap.size,0,none⟩) 0 0) 0 _ rfl OL.out ⟨g,0,none⟩ k c (scells (out.take k)) rfl HLA.out HFA.out (soneT _) (by unfold maxLen;omega) (by omega) (by first | omega | (simp <;> omega)) ?_;intro v3 w3 hown3 hgrow3 hnil3;obtain⟨Bx3,By3,hs3,c1r⟩:=HA3.out w3 hgrow3;have OV3:=hidOwn hown3;clear hown3 hgrow3 hnil3 c1q))
           have B6:Below w.heap.size w w6:=Q2.trans ((B4.grown hgrow6 (by omega) (fun k hk=>(OV4.out.lt k hk).1)).mono sq)
           have HE6:Hid (w6.ownsRow w.heap.size 9 1 v6 (textsR (ns.take (j+1))).length (scells (textsR (ns.take (j+1))))):=by
            have e1:(textsR (ns.take (j+1))).length=0+k+1+(out.length - k):=by rw[HZ2.out];simp;omega
            have e2:scells (textsR (ns.take (j+1)))=[] ++ scells (out.take k) ++ [.string ⟨h.toArray⟩] ++ scells (out.drop k):=by rw[HZ2.out,scells_app,scells_app];rfl
            rw[Hid,e1,e2]
            have:=hown6.mono sq
            first | exact this | (rw[hdk.out] at *;simpa [scells] using this)
           obtain⟨g6,c6,rfl⟩:∃ g6 c6,v6=.slice (some ⟨g6,0,none⟩) (textsR (ns.take (j+1))).length c6:=by
            rcases own_cases HE6.out with ⟨e,hn,_⟩ | ⟨g6,c6,e,_⟩
            · exfalso;rw[HZ2.out] at hn;simp at hn
            · exact⟨g6,c6,e⟩
           clear hown6 hgrow6 hnil6 HA3 HA4 HFA HLA HLC OL OV4 HZ2
           go_wp2
           go_roundw
           case rel=>exact⟨j+1,g6,c6,by omega,by go_num,rfl,HE6,B6⟩
           case measure=>simp[intOf];omega
    · obtain rfl:j=ns.length:=by omega
      have hj1:¬ (ns.length:Int)<(ns.length:Int):=by omega
      rw[List.take_length] at HO ⊢
      go_wp2
      go_ret
      exact⟨g,c,rfl,HO.out,hbel⟩
end Go.Proofs.YtglkmlfhcggckaaGreatDoor
