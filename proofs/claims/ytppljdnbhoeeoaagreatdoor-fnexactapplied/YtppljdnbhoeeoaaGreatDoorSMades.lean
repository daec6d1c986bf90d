/-
 Texts that are laid as one: SSorted, SMade.
-/
import Derived.Test.YtppljdnbhoeeoaaGreatDoorSBuilds
import Derived.Test.YtppljdnbhoeeoaaGreatDoorRegH
namespace Go.Proofs.YtppljdnbhoeeoaaGreatDoor
open Go.RowKit
set_option linter.unusedVariables false
set_option maxHeartbeats 4000000
set_option maxRecDepth 100000
def zbh:List za→List UInt8→Nat
 | [],_=>0
 | x :: xs,h=>if Op.bytesLess x.1 h=true then zbh xs h+1 else 0
def zb0 (out:List za) (p:za):List za:=if zbh out p.1<out.length∧keyAt out (zbh out p.1)=p.1 then out else out.take (zbh out p.1) ++ [p] ++ out.drop (zbh out p.1)
def zu (ns:List za):List za:=ns.foldl zb0 []
theorem zr2 (ns:List za) (j:Nat) (h:j<ns.length):zu (ns.take (j+1))=zb0 (zu (ns.take j)) ns[j]:=by rw[zdv ns j h,zu,List.foldl_append];rfl
theorem zlb:∀ (out:List za) (h:List UInt8),zbh out h≤out.length
 | [],_=>Nat.le_refl _
 | x :: xs, h => by
   simp only[zbh]
   split
   · have:=zlb xs h;simp;omega
   · omega
theorem zr3:∀ (out:List za) (h:List UInt8) (k:Nat),k<out.length→k≤zbh out h→Op.bytesLess (keyAt out k) h=true→k+1≤zbh out h
 | [],_,k,hk,_,_=>by simp at hk
 | x :: xs, h, 0, _, _, hb => by
   have hb':Op.bytesLess x.1 h=true:=hb
   simp[zbh,hb']
 | x :: xs, h, k + 1, hk, hle, hb => by
   simp only[zbh] at hle ⊢
   split at hle
   · rename_i hx
     rw[if_pos hx]
     have hb':Op.bytesLess (keyAt xs k) h=true:=by simpa [keyAt] using hb
     have:=zr3 xs h k (by simpa using hk) (by omega) hb'
     omega
   · omega
theorem zr4:∀ (out:List za) (h:List UInt8) (k:Nat),k<out.length→k≤zbh out h→Op.bytesLess (keyAt out k) h=false→zbh out h=k
 | [],_,k,hk,_,_=>by simp at hk
 | x :: xs, h, 0, _, _, hb => by
   have hb':Op.bytesLess x.1 h=false:=hb
   simp[zbh,hb']
 | x :: xs, h, k + 1, hk, hle, hb => by
   simp only[zbh] at hle ⊢
   split at hle
   · rename_i hx
     rw[if_pos hx]
     have hb':Op.bytesLess (keyAt xs k) h=false:=by simpa [keyAt] using hb
     have:=zr4 xs h k (by simpa using hk) (by omega) hb'
     omega
   · omega
theorem za1v (out:List za) (p:za):(zb0 out p).length≤out.length+1:=by
 unfold zb0
 split
 · omega
 · have:=zlb out p.1;simp;omega
theorem zib (ns:List za):∀ j,j≤ns.length→(zu (ns.take j)).length≤j
 | 0,_=>by simp[zu]
 | j + 1, h => by
   rw[zr2 ns j (by omega)]
   have:=zib ns j (by omega)
   have:=za1v (zu (ns.take j)) ns[j]
   omega
theorem za1w {w:World} {B e g n c:Nat} {xs:List Value} (h:w.ownsRow B e 2 (.slice (some ⟨g,0,none⟩) n c) n xs):n≤c:=by
 rcases h.2 with ⟨e,_⟩ | ⟨g',cap',cur,e,_,_,hc,_⟩
 · cases e
 · cases e;exact hc
theorem zic {w:World} {B e g n c:Nat} {ns:List za} (h:w.ownsRow B e 2 (.slice (some ⟨g,0,none⟩) n c) ns.length (zb ns)) (j:Nat) (hj:j<ns.length):w.cell? ⟨g,j*2,none⟩=some (.string ⟨(keyAt ns j).toArray⟩)∧w.cell? ⟨g,j*2+1,none⟩=some (.string ⟨(zw ns j).toArray⟩):=by
 have hp:=zea ns j hj
 rw[zad ns j hj,zbo ns j hj]
 rcases h.2 with ⟨h',_⟩ | ⟨g',cap',cur,h',_⟩
 · cases h'
 · cases h'
   exact⟨(h.cellAt (j*2) (by omega)).trans hp.1,(h.cellAt (j*2+1) (by omega)).trans hp.2⟩
theorem zid {w:World} {B e g n c:Nat} {ns:List za} (h:w.ownsRow B e 2 (.slice (some ⟨g,0,none⟩) n c) ns.length (zb ns)) (from0 cnt:Nat):∀ j u,(zb ((ns.drop from0).take cnt))[j]? = some u→w.cell? ((⟨g,from0*2,none⟩:Addr).add j)=some u:=by
 intro j u hu
 have hj:=(List.getElem?_eq_some_iff.1 hu).1
 rw[zbu,List.length_take,List.length_drop] at hj
 have ea:(⟨g,from0*2,none⟩:Addr).add j=⟨g,from0*2+j,none⟩:=by
  simp only[Addr.add]
  split
  · rename_i h9;rw[h9];rfl
  · rfl
 rw[ea]
 have hq:j / 2<((ns.drop from0).take cnt).length:=by rw[List.length_take,List.length_drop];omega
 have hp:=zea ((ns.drop from0).take cnt) (j / 2) hq
 have hn:from0+j / 2<ns.length:=by omega
 have hc:=zic h (from0+j / 2) hn
 rw[zad ns _ hn,zbo ns _ hn] at hc
 simp only[List.getElem_take,List.getElem_drop] at hp
 rcases Nat.mod_two_eq_zero_or_one j with h0 | h0
 · have e1:j=j / 2*2:=by omega
   rw[e1] at hu
   rw[hp.1] at hu
   rw[show from0*2+j=(from0+j / 2)*2 by omega,←hu]
   exact hc.1
 · have e1:j=j / 2*2+1:=by omega
   rw[e1] at hu
   rw[hp.2] at hu
   rw[show from0*2+j=(from0+j / 2)*2+1 by omega,←hu]
   exact hc.2
theorem za1x (a:Option Addr) (cp:Nat) (ns:List za) (w:World) (hl:ns.length≤10000) (hs:IsPairs w a ns) :
 Calls Tryz.prog 96 #[.slice a ns.length cp] w fun e w'=>∃ g c:Nat,e=.returned (.slice (some ⟨g,0,none⟩) (zu ns).length c)∧w'.ownsRow w.heap.size 59 2 (.slice (some ⟨g,0,none⟩) (zu ns).length c) (zu ns).length (zb (zu ns))∧Below w.heap.size w w':=by
 obtain⟨i0,hi0,hz0,hz1,hz2⟩:=info_parts zeq
 have Ba:Below w.heap.size w (w.alloc (.cells #[] 59)):=(Below.refl _ _).alloc (Nat.le_refl _) _
 have O0:=zc (World.ownsRow_lit (e:=59) (size:=2) w #[] 0 (base:=w.heap.size) (Nat.le_refl _) (Nat.zero_le _) rfl)
 rcases hs with rfl | ⟨b,off,rfl,hc⟩
 · have e0:zu []=[]:=rfl
   rw[e0]
   go_enter Tryz.func96,Tryz.ntmps96
   go_wp2
   refine wp_loop_rounds 1 ?_
   rw[rounds_succ]
   go_wp2
   go_ret
   exact⟨_,_,rfl,O0.out,Ba⟩
 · have HC : Hid (∀ j, j < ns.length → w.cell? ⟨b, off + j * 2, none⟩ = some (.string ⟨(keyAt ns j).toArray⟩) ∧ w.cell? ⟨b, off + j * 2 + 1, none⟩ = some (.string ⟨(zw ns j).toArray⟩)) := fun j h => by rw [zad ns j h, zbo ns j h]; exact hc j h
   have HSN:Hid (∀ j,j<ns.length→zu (ns.take (j+1))=zb0 (zu (ns.take j)) (keyAt ns j,zw ns j)):=fun j h=>by rw[zr2 ns j h,zad ns j h,zbo ns j h]
   have HSL:Hid (∀ j,j≤ns.length→(zu (ns.take j)).length≤j):=zib ns
   clear hc
   go_enter Tryz.func96,Tryz.ntmps96
   go_wp2
   go_loopw [3,4] (fun o i wr=>∃ (j g c:Nat),j≤ns.length∧i=.int .i64 (j:Int)∧o=.slice (some ⟨g,0,none⟩) (zu (ns.take j)).length c∧Hid (wr.ownsRow w.heap.size 59 2 (.slice (some ⟨g,0,none⟩) (zu (ns.take j)).length c) (zu (ns.take j)).length (zb (zu (ns.take j))))∧Below w.heap.size w wr) (fun _ i _=>ns.length - (intOf i).toNat)
   case atStart=>exact⟨0,w.heap.size,0,Nat.zero_le _,rfl,rfl,O0,Ba⟩
   case round =>
    obtain⟨j,g,c,hj,rfl,rfl,HO,hbel⟩:=hrel
    obtain⟨wo,rfl⟩:∃ wo,wo=wr:=⟨_,rfl⟩
    have hsz:=hbel.size
    clear O0 Ba
    by_cases hlt:j<ns.length
    · obtain ⟨c1', c2'⟩ := HC.out j hlt
      have hblt:=World.block_lt_of_cell? w _ c1'
      simp only at hblt
      have HS:Hid (zu (ns.take (j+1))=zb0 (zu (ns.take j)) (keyAt ns j,zw ns j)):=HSN.out j hlt
      have hol:=HSL.out j hj
      obtain⟨h,hh⟩:∃ h,h=keyAt ns j:=⟨_,rfl⟩
      obtain⟨t,ht⟩:∃ t,t=zw ns j:=⟨_,rfl⟩
      rw[←hh] at c1' HS
      rw[←ht] at c2' HS
      have C1:Hid (w.cell? ⟨b,off+j*2,none⟩=some (.string ⟨h.toArray⟩)):=c1'
      have C2:Hid (w.cell? ⟨b,off+j*2+1,none⟩=some (.string ⟨t.toArray⟩)):=c2'
      obtain⟨out,hout⟩:∃ out,out=zu (ns.take j):=⟨_,rfl⟩
      rw[←hout] at HS hol HO ⊢
      have hpl:=zlb out h
      have hj1:(j:Int)<(ns.length:Int):=by omega
      have hj0':(0:Int)≤(j:Int):=by omega
      have hcap:=za1w HO.out
      have hgl:=(HO.out.lt g rfl)
      clear hh ht c1' c2' hout HC HSN HSL
      go_wp2
      go_loopw [5] (fun kk wx=>∃ k:Nat,k≤out.length∧k≤zbh out h∧kk=.int .i64 (k:Int)∧Below wo.heap.size wo wx) (fun kk _=>out.length - (intOf kk).toNat)
      case atStart=>exact⟨0,Nat.zero_le _,Nat.zero_le _,rfl,Below.refl _ _⟩
      case round =>
       obtain⟨k,hk,hkp,rfl,hb2⟩:=hrel
       have B2:=hbel.trans (hb2.mono hsz)
       have s2:=B2.size
       have sw2:=hb2.size
       have HO2:=zc (zan HO.out hb2)
       have c1:=(B2.cell (p:=⟨b,off+j*2,none⟩) hblt).trans C1.out
       have c2:=(B2.cell (p:=⟨b,off+j*2+1,none⟩) hblt).trans C2.out
       have hk0:(0:Int)≤(k:Int):=by omega
       by_cases hlt2:k<out.length
       · have hk1 : (k : Int) < (out.length : Int) := by omega
         obtain⟨d1,d2⟩:=zic HO2.out k hlt2
         cases hless:Op.bytesLess (keyAt out k) h with
         | true =>
           have hn:=zr3 out h k hlt2 hkp hless
           obtain⟨z,hz⟩:∃ z,z=keyAt out k:=⟨_,rfl⟩
           rw[←hz] at d1 hless
           have hq:Op.bytesLess (⟨z.toArray⟩:ByteArray).toList (⟨h.toArray⟩:ByteArray).toList=true:=by rw[zas,zas];exact hless
           clear hz d2
           go_wp2
           go_quiet (fail)
           go_wp2
           go_roundw
           case rel=>exact⟨k+1,by omega,hn,by go_num,zbj hb2⟩
           case measure=>simp[intOf];omega
         | false =>
           have hpk:=zr4 out h k hlt2 hkp hless
           have HZ:Hid (zb0 out (h,t)=if keyAt out k=h then out else out.take k ++ [(h,t)] ++ out.drop k):=by
            rw[Hid,zb0];simp only[hpk]
            by_cases he:keyAt out k=h
            · rw[if_pos ⟨hlt2,he⟩,if_pos he]
            · rw[if_neg (fun x=>he x.2),if_neg he]
           obtain⟨z,hz⟩:∃ z,z=keyAt out k:=⟨_,rfl⟩
           rw[←hz] at d1 hless HZ
           have hq:Op.bytesLess (⟨z.toArray⟩:ByteArray).toList (⟨h.toArray⟩:ByteArray).toList=false:=by rw[zas,zas];exact hless
           have B2q:∀ q q',Below w.heap.size w ((wr.drewN q).drewN q'):=fun q q'=>zbj (zbj B2)
           by_cases he:z=h
           · have HZ2:Hid (zu (ns.take (j+1))=out):=by rw[Hid,HS.out,HZ.out,if_pos he]
             clear HS HZ hz
             subst he
             go_wp2
             go_quiet (fail)
             go_wp2
             go_quiet (fail)
             go_wp2
             go_roundw
             case rel=>exact⟨j+1,g,c,by omega,by go_num,by rw[HZ2.out],by rw[HZ2.out];exact zan HO2.out ⟨rfl,rfl,rfl,Nat.le_refl _,fun _ _=>rfl⟩,by first | exact B2q _ _ | exact zbj B2⟩
             case measure=>simp[intOf];omega
           · have HZ2:Hid (zu (ns.take (j+1))=out.take k ++ [(h,t)] ++ out.drop k):=by rw[Hid,HS.out,HZ.out,if_neg he]
             have hzb:(z == h)=false:=by simp[he]
             clear HS HZ hz
             go_wp2
             go_quiet (fail)
             go_wp2
             go_quiet (fail)
             generalize hwq:(World.drewN (World.drewN wr _) _)=wq
             have Q2:Below w.heap.size w wq:=by rw[←hwq];exact zbj (zbj B2)
             have HOq:=zc (zan HO2.out (w':=wq) (by rw[←hwq];exact⟨rfl,rfl,rfl,Nat.le_refl _,fun _ _=>rfl⟩))
             have c1q:wq.cell? ⟨b,off+j*2,none⟩=some (.string ⟨h.toArray⟩):=(Q2.cell (p:=⟨b,off+j*2,none⟩) hblt).trans C1.out
             have c2q:wq.cell? ⟨b,off+j*2+1,none⟩=some (.string ⟨t.toArray⟩):=(Q2.cell (p:=⟨b,off+j*2+1,none⟩) hblt).trans C2.out
             have sq:=Q2.size
             have hglq:=(HOq.out.lt g rfl)
             have OL:=zc (World.ownsRow_lit (e:=59) (size:=2) wq #[] 0 (base:=wq.heap.size) (Nat.le_refl _) (Nat.zero_le _) rfl)
             have QA:Below w.heap.size w (wq.alloc (.cells #[] 59)):=Q2.alloc sq _
             have HFA:Hid (∀ i u,(zb (out.take k))[i]? = some u→(wq.alloc (.cells #[] 59)).cell? ((⟨g,0,none⟩:Addr).add i)=some u):=by
              have:=zid (zan HOq.out ((Below.refl _ _).alloc (Nat.le_refl _) (.cells #[] 59))) 0 k
              rw[Hid]
              simpa using this
             have HLA:Hid ((zb (out.take k)).length=k*2):=by rw[Hid,zbu,List.length_take,Nat.min_eq_left hk]
             have HLC:Hid ((zb (out.drop k)).length=(out.length - k)*2):=by rw[Hid,zbu,List.length_drop]
             have HA3:Hid (∀ w3:World,(wq.alloc (.cells #[] 59)).grownBy w3 (Value.slice (some ⟨wq.heap.size,0,none⟩) 0 0).ownBlock→Below wq.heap.size wq w3∧Below w.heap.size w w3∧wq.heap.size<w3.heap.size∧w3.cell? ⟨b,off+j*2,none⟩=some (.string ⟨h.toArray⟩)∧w3.cell? ⟨b,off+j*2+1,none⟩=some (.string ⟨t.toArray⟩)):=by
              intro w3 hg3
              have Bx:Below wq.heap.size wq w3:=((Below.refl _ _).alloc (Nat.le_refl _) _).grown hg3 (by simp) (fun k hk=>by simp[Value.ownBlock] at hk;omega)
              have By:=Q2.trans (Bx.mono sq)
              exact⟨Bx,By,by have:=hg3.size;simp at this;omega,(By.cell (p:=⟨b,off+j*2,none⟩) hblt).trans C1.out,(By.cell (p:=⟨b,off+j*2+1,none⟩) hblt).trans C2.out⟩
             have HA4:Hid (∀ (w3 w4:World) (v3:Value) (n3:Nat) (x3:List Value),Below wq.heap.size wq w3→wq.heap.size<w3.heap.size→w3.ownsRow wq.heap.size 59 2 v3 n3 x3→(w3.alloc (.cells #[.string ⟨h.toArray⟩,.string ⟨t.toArray⟩] 59)).grownBy w4 v3.ownBlock→Below wq.heap.size wq w4∧wq.heap.size<w4.heap.size∧(∀ i u,(zb (out.drop k))[i]? = some u→w4.cell? ((⟨g,k*2,none⟩:Addr).add i)=some u)):=by
              intro w3 w4 v3 n3 x3 Bx hsx ho hg4
              have Bz:Below wq.heap.size wq w4:=(Bx.alloc (by omega) _).grown hg4 (by simp;omega) (fun k hk=>(ho.lt k hk).1)
              refine⟨Bz,by have:=hg4.size;simp at this;omega,?_⟩
              have:=zid (zan HOq.out Bz) k (out.length - k)
              rw[List.take_of_length_le (by rw[List.length_drop];omega)] at this
              exact this
             have hkc':(k:Int)≤(c:Int):=by omega
             have hkl':(k:Int)≤(out.length:Int):=by omega
             clear hwq HO2 HO c1 c2 B2
             have hck:¬ c=k:=by omega
             go_wp2_with (first | (at_builtin;refine wpList_append_own _ rfl _ _ 31 rfl wq.heap.size 59 i0 (.agg #[.string ⟨#[]⟩,.string ⟨#[]⟩]) 2 32 Tryz.underlying31 hi0 hz0 hz1 hz2 rfl (by decide) v4 (0+k+1) _ rfl OV4.out ⟨g,k*2,none⟩ (out.length - k) (c - k) (zb (out.drop k)) rfl HLC.out HF4 (pone _) (by unfold maxLen;omega) (by omega) (by first | omega | (simp <;> omega)) ?_;intro v6 w6 hown6 hgrow6 hnil6) | (at_builtin;refine wpList_append_own _ rfl _ _ 31 rfl wq.heap.size 59 i0 (.agg #[.string ⟨#[]⟩,.string ⟨#[]⟩]) 2 32 Tryz.underlying31 hi0 hz0 hz1 hz2 rfl (by decide) v3 (0+k) _ rfl (OV3.out.alloc _) ⟨w3.heap.size,0,none⟩ 1 1 [.string ⟨h.toArray⟩,.string ⟨t.toArray⟩] rfl rfl (World.news_of_block (cs:=#[.string ⟨h.toArray⟩,.string ⟨t.toArray⟩]) (t:=59) (fr:=(0,0)) (heap_alloc_new w3 _)) (by simp[Value.oneCell']) (by unfold maxLen;omega) (by omega) (by first | omega | (simp <;> omega)) ?_;intro v4 w4 hown4 hgrow4 hnil4;obtain⟨B4,hs4,HF4⟩:=HA4.out w3 w4 v3 _ _ Bx3 hs3 OV3.out hgrow4;have OV4:=zc hown4;clear hown4 hgrow4 hnil4 OV3) | (at_builtin;refine wpList_append_own _ rfl _ _ 31 rfl wq.heap.size 59 i0 (.agg #[.string ⟨#[]⟩,.string ⟨#[]⟩]) 2 32 Tryz.underlying31 hi0 hz0 hz1 hz2 rfl (by decide) (.slice (some ⟨wq.heap.size,0,none⟩) 0 0) 0 _ rfl OL.out ⟨g,0,none⟩ k c (zb (out.take k)) rfl HLA.out HFA.out (pone _) (by unfold maxLen;omega) (by omega) (by first | omega | (simp <;> omega)) ?_;intro v3 w3 hown3 hgrow3 hnil3;obtain⟨Bx3,By3,hs3,c1r,c2r⟩:=HA3.out w3 hgrow3;have OV3:=zc hown3;clear hown3 hgrow3 hnil3 c1q c2q))
             have B6:Below w.heap.size w w6:=Q2.trans ((B4.grown hgrow6 (by omega) (fun k hk=>(OV4.out.lt k hk).1)).mono sq)
             have HE6:Hid (w6.ownsRow w.heap.size 59 2 v6 (zu (ns.take (j+1))).length (zb (zu (ns.take (j+1))))):=by
              have e1:(zu (ns.take (j+1))).length=0+k+1+(out.length - k):=by rw[HZ2.out];simp;omega
              have e2:zb (zu (ns.take (j+1)))=[] ++ zb (out.take k) ++ [.string ⟨h.toArray⟩,.string ⟨t.toArray⟩] ++ zb (out.drop k):=by rw[HZ2.out,zc2,zc2];rfl
              rw[Hid,e1,e2]
              have:=hown6.mono sq
              first | exact this | (rw[hdk.out] at *;simpa [zb] using this)
             obtain⟨g6,c6,rfl⟩:∃ g6 c6,v6=.slice (some ⟨g6,0,none⟩) (zu (ns.take (j+1))).length c6:=by
              rcases zc9 HE6.out with ⟨e,hn,_⟩ | ⟨g6,c6,e,_⟩
              · exfalso;rw[HZ2.out] at hn;simp at hn
              · exact⟨g6,c6,e⟩
             clear hown6 hgrow6 hnil6 HA3 HA4 HFA HLA HLC OL OV4 HZ2
             go_wp2
             go_roundw
             case rel=>exact⟨j+1,g6,c6,by omega,by go_num,rfl,HE6,B6⟩
             case measure=>simp[intOf];omega
       · have hk1:¬ (k:Int)<(out.length:Int):=by omega
         have hko:k=out.length:=by omega
         have hpk:zbh out h=k:=by omega
         have HZ2:Hid (zu (ns.take (j+1))=out.take k ++ [(h,t)] ++ out.drop k):=by
          rw[Hid,HS.out,zb0];simp only[hpk]
          rw[if_neg (fun x=>by omega)]
         have HKO:Hid (k=out.length):=hko
         clear HS hpk hko
         go_wp2
         go_quiet (fail)
         go_wp2
         go_quiet (fail)
         generalize hwq:(World.drewN (World.drewN wr _) _)=wq
         have Q2:Below w.heap.size w wq:=by rw[←hwq];exact zbj (zbj B2)
         have HOq:=zc (zan HO2.out (w':=wq) (by rw[←hwq];exact⟨rfl,rfl,rfl,Nat.le_refl _,fun _ _=>rfl⟩))
         have c1q:wq.cell? ⟨b,off+j*2,none⟩=some (.string ⟨h.toArray⟩):=(Q2.cell (p:=⟨b,off+j*2,none⟩) hblt).trans C1.out
         have c2q:wq.cell? ⟨b,off+j*2+1,none⟩=some (.string ⟨t.toArray⟩):=(Q2.cell (p:=⟨b,off+j*2+1,none⟩) hblt).trans C2.out
         have sq:=Q2.size
         have hglq:=(HOq.out.lt g rfl)
         have OL:=zc (World.ownsRow_lit (e:=59) (size:=2) wq #[] 0 (base:=wq.heap.size) (Nat.le_refl _) (Nat.zero_le _) rfl)
         have QA:Below w.heap.size w (wq.alloc (.cells #[] 59)):=Q2.alloc sq _
         have HFA:Hid (∀ i u,(zb (out.take k))[i]? = some u→(wq.alloc (.cells #[] 59)).cell? ((⟨g,0,none⟩:Addr).add i)=some u):=by
          have:=zid (zan HOq.out ((Below.refl _ _).alloc (Nat.le_refl _) (.cells #[] 59))) 0 k
          rw[Hid]
          simpa using this
         have HLA:Hid ((zb (out.take k)).length=k*2):=by rw[Hid,zbu,List.length_take,Nat.min_eq_left hk]
         have HLC:Hid ((zb (out.drop k)).length=(out.length - k)*2):=by rw[Hid,zbu,List.length_drop]
         have HA3:Hid (∀ w3:World,(wq.alloc (.cells #[] 59)).grownBy w3 (Value.slice (some ⟨wq.heap.size,0,none⟩) 0 0).ownBlock→Below wq.heap.size wq w3∧Below w.heap.size w w3∧wq.heap.size<w3.heap.size∧w3.cell? ⟨b,off+j*2,none⟩=some (.string ⟨h.toArray⟩)∧w3.cell? ⟨b,off+j*2+1,none⟩=some (.string ⟨t.toArray⟩)):=by
          intro w3 hg3
          have Bx:Below wq.heap.size wq w3:=((Below.refl _ _).alloc (Nat.le_refl _) _).grown hg3 (by simp) (fun k hk=>by simp[Value.ownBlock] at hk;omega)
          have By:=Q2.trans (Bx.mono sq)
          exact⟨Bx,By,by have:=hg3.size;simp at this;omega,(By.cell (p:=⟨b,off+j*2,none⟩) hblt).trans C1.out,(By.cell (p:=⟨b,off+j*2+1,none⟩) hblt).trans C2.out⟩
         have HA4:Hid (∀ (w3 w4:World) (v3:Value) (n3:Nat) (x3:List Value),Below wq.heap.size wq w3→wq.heap.size<w3.heap.size→w3.ownsRow wq.heap.size 59 2 v3 n3 x3→(w3.alloc (.cells #[.string ⟨h.toArray⟩,.string ⟨t.toArray⟩] 59)).grownBy w4 v3.ownBlock→Below wq.heap.size wq w4∧wq.heap.size<w4.heap.size∧(∀ i u,(zb (out.drop k))[i]? = some u→w4.cell? ((⟨g,k*2,none⟩:Addr).add i)=some u)):=by
          intro w3 w4 v3 n3 x3 Bx hsx ho hg4
          have Bz:Below wq.heap.size wq w4:=(Bx.alloc (by omega) _).grown hg4 (by simp;omega) (fun k hk=>(ho.lt k hk).1)
          refine⟨Bz,by have:=hg4.size;simp at this;omega,?_⟩
          have:=zid (zan HOq.out Bz) k (out.length - k)
          rw[List.take_of_length_le (by rw[List.length_drop];omega)] at this
          exact this
         have hkc':(k:Int)≤(c:Int):=by omega
         have hkl':(k:Int)≤(out.length:Int):=by omega
         clear hwq HO2 HO c1 c2 B2
         by_cases hck:c=k
         · have hdk:Hid (out.drop k=[]):=List.drop_eq_nil_of_le (by omega)
           go_wp2_with (first | (at_builtin;refine wpList_append_own _ rfl _ _ 31 rfl wq.heap.size 59 i0 (.agg #[.string ⟨#[]⟩,.string ⟨#[]⟩]) 2 32 Tryz.underlying31 hi0 hz0 hz1 hz2 rfl (by decide) v4 (0+k+1) _ rfl OV4.out ⟨g,0,none⟩ (out.length - k) 0 (zb (out.drop k)) rfl HLC.out (fun i u hu=>by rw[hdk.out] at hu;simp[zb] at hu) (pone _) (by unfold maxLen;omega) (by omega) (by first | omega | (simp <;> omega)) ?_;intro v6 w6 hown6 hgrow6 hnil6) | (at_builtin;refine wpList_append_own _ rfl _ _ 31 rfl wq.heap.size 59 i0 (.agg #[.string ⟨#[]⟩,.string ⟨#[]⟩]) 2 32 Tryz.underlying31 hi0 hz0 hz1 hz2 rfl (by decide) v3 (0+k) _ rfl (OV3.out.alloc _) ⟨w3.heap.size,0,none⟩ 1 1 [.string ⟨h.toArray⟩,.string ⟨t.toArray⟩] rfl rfl (World.news_of_block (cs:=#[.string ⟨h.toArray⟩,.string ⟨t.toArray⟩]) (t:=59) (fr:=(0,0)) (heap_alloc_new w3 _)) (by simp[Value.oneCell']) (by unfold maxLen;omega) (by omega) (by first | omega | (simp <;> omega)) ?_;intro v4 w4 hown4 hgrow4 hnil4;obtain⟨B4,hs4,HF4⟩:=HA4.out w3 w4 v3 _ _ Bx3 hs3 OV3.out hgrow4;have OV4:=zc hown4;clear hown4 hgrow4 hnil4 OV3) | (at_builtin;refine wpList_append_own _ rfl _ _ 31 rfl wq.heap.size 59 i0 (.agg #[.string ⟨#[]⟩,.string ⟨#[]⟩]) 2 32 Tryz.underlying31 hi0 hz0 hz1 hz2 rfl (by decide) (.slice (some ⟨wq.heap.size,0,none⟩) 0 0) 0 _ rfl OL.out ⟨g,0,none⟩ k k (zb (out.take k)) rfl HLA.out HFA.out (pone _) (by unfold maxLen;omega) (by omega) (by first | omega | (simp <;> omega)) ?_;intro v3 w3 hown3 hgrow3 hnil3;obtain⟨Bx3,By3,hs3,c1r,c2r⟩:=HA3.out w3 hgrow3;have OV3:=zc hown3;clear hown3 hgrow3 hnil3 c1q c2q))
           have B6:Below w.heap.size w w6:=Q2.trans ((B4.grown hgrow6 (by omega) (fun k hk=>(OV4.out.lt k hk).1)).mono sq)
           have HE6:Hid (w6.ownsRow w.heap.size 59 2 v6 (zu (ns.take (j+1))).length (zb (zu (ns.take (j+1))))):=by
            have e1:(zu (ns.take (j+1))).length=0+k+1+(out.length - k):=by rw[HZ2.out];simp;omega
            have e2:zb (zu (ns.take (j+1)))=[] ++ zb (out.take k) ++ [.string ⟨h.toArray⟩,.string ⟨t.toArray⟩] ++ zb (out.drop k):=by rw[HZ2.out,zc2,zc2];rfl
            rw[Hid,e1,e2]
            have:=hown6.mono sq
            first | exact this | (rw[hdk.out] at *;simpa [zb] using this)
           obtain⟨g6,c6,rfl⟩:∃ g6 c6,v6=.slice (some ⟨g6,0,none⟩) (zu (ns.take (j+1))).length c6:=by
            rcases zc9 HE6.out with ⟨e,hn,_⟩ | ⟨g6,c6,e,_⟩
            · exfalso;rw[HZ2.out] at hn;simp at hn
            · exact⟨g6,c6,e⟩
           clear hown6 hgrow6 hnil6 HA3 HA4 HFA HLA HLC OL OV4 HZ2
           go_wp2
           go_roundw
           case rel=>exact⟨j+1,g6,c6,by omega,by go_num,rfl,HE6,B6⟩
           case measure=>simp[intOf];omega
         · go_wp2_with (first | (at_builtin;refine wpList_append_own _ rfl _ _ 31 rfl wq.heap.size 59 i0 (.agg #[.string ⟨#[]⟩,.string ⟨#[]⟩]) 2 32 Tryz.underlying31 hi0 hz0 hz1 hz2 rfl (by decide) v4 (0+k+1) _ rfl OV4.out ⟨g,k*2,none⟩ (out.length - k) (c - k) (zb (out.drop k)) rfl HLC.out HF4 (pone _) (by unfold maxLen;omega) (by omega) (by first | omega | (simp <;> omega)) ?_;intro v6 w6 hown6 hgrow6 hnil6) | (at_builtin;refine wpList_append_own _ rfl _ _ 31 rfl wq.heap.size 59 i0 (.agg #[.string ⟨#[]⟩,.string ⟨#[]⟩]) 2 32 Tryz.underlying31 hi0 hz0 hz1 hz2 rfl (by decide) v3 (0+k) _ rfl (OV3.out.alloc _) ⟨w3.heap.size,0,none⟩ 1 1 [.string ⟨h.toArray⟩,.string ⟨t.toArray⟩] rfl rfl (World.news_of_block (cs:=#[.string ⟨h.toArray⟩,.string ⟨t.toArray⟩]) (t:=59) (fr:=(0,0)) (heap_alloc_new w3 _)) (by simp[Value.oneCell']) (by unfold maxLen;omega) (by omega) (by first | omega | (simp <;> omega)) ?_;intro v4 w4 hown4 hgrow4 hnil4;obtain⟨B4,hs4,HF4⟩:=HA4.out w3 w4 v3 _ _ Bx3 hs3 OV3.out hgrow4;have OV4:=zc hown4;clear hown4 hgrow4 hnil4 OV3) | (at_builtin;refine wpList_append_own _ rfl _ _ 31 rfl wq.heap.size 59 i0 (.agg #[.string ⟨#[]⟩,.string ⟨#[]⟩]) 2 32 Tryz.underlying31 hi0 hz0 hz1 hz2 rfl (by decide) (.slice (some ⟨wq.heap.size,0,none⟩) 0 0) 0 _ rfl OL.out ⟨g,0,none⟩ k c (zb (out.take k)) rfl HLA.out HFA.out (pone _) (by unfold maxLen;omega) (by omega) (by first | omega | (simp <;> omega)) ?_;intro v3 w3 hown3 hgrow3 hnil3;obtain⟨Bx3,By3,hs3,c1r,c2r⟩:=HA3.out w3 hgrow3;have OV3:=zc hown3;clear hown3 hgrow3 hnil3 c1q c2q))
           have B6:Below w.heap.size w w6:=Q2.trans ((B4.grown hgrow6 (by omega) (fun k hk=>(OV4.out.lt k hk).1)).mono sq)
           have HE6:Hid (w6.ownsRow w.heap.size 59 2 v6 (zu (ns.take (j+1))).length (zb (zu (ns.take (j+1))))):=by
            have e1:(zu (ns.take (j+1))).length=0+k+1+(out.length - k):=by rw[HZ2.out];simp;omega
            have e2:zb (zu (ns.take (j+1)))=[] ++ zb (out.take k) ++ [.string ⟨h.toArray⟩,.string ⟨t.toArray⟩] ++ zb (out.drop k):=by rw[HZ2.out,zc2,zc2];rfl
            rw[Hid,e1,e2]
            have:=hown6.mono sq
            first | exact this | (rw[hdk.out] at *;simpa [zb] using this)
           obtain⟨g6,c6,rfl⟩:∃ g6 c6,v6=.slice (some ⟨g6,0,none⟩) (zu (ns.take (j+1))).length c6:=by
            rcases zc9 HE6.out with ⟨e,hn,_⟩ | ⟨g6,c6,e,_⟩
            · exfalso;rw[HZ2.out] at hn;simp at hn
            · exact⟨g6,c6,e⟩
           clear hown6 hgrow6 hnil6 HA3 HA4 HFA HLA HLC OL OV4 HZ2
           go_wp2
           go_roundw
           case rel=>exact⟨j+1,g6,c6,by omega,by go_num,rfl,HE6,B6⟩
           case measure=>simp[intOf];omega
    · obtain rfl:j=ns.length:=by omega
      have hj1:¬ (ns.length:Int)<(ns.length:Int):=by omega
      rw[List.take_length] at HO ⊢
      go_wp2
      go_ret
      exact⟨g,c,rfl,HO.out,hbel⟩
abbrev sm15 : Oper := { dst := some 45, op := Op.call { callee := Callee.value (Operand.func 71), args := #[], argTypes := #[] }, type := 9, pos := "l05_tries.go:116", after := #[{ on := 7, ground := Ground.chain }, { on := 7, ground := Ground.guard }], guard := some (7, false) }
def zda (all:List za) (i:Nat):Bool:=decide ((zm (zu all) (keyAt all i)).getD []=zw all i) && decide (keyAt all i≠emptyL)
def zah (all:List za):Bool:=(List.range all.length).all (zda all)
def zcb (all:List za):List UInt8:=if all=[] then emptyL else za0 all
def zr (ps:List za):Bool:=za3 ps && zah (allL ps)
def zae (ps:List za):List UInt8:=if zr ps then zcb (allL ps) else []
theorem za1y (all:List za) (j:Nat) (hj:j<all.length) (h:zda all j=false):zah all=false:=by
 rw[zah,List.all_eq_false];exact⟨j,List.mem_range.2 hj,by simp[h]⟩
theorem zr5 (all:List za) (h:∀ j,j<all.length→zda all j=true):zah all=true:=by
 rw[zah,List.all_eq_true];exact fun j hj=>h j (List.mem_range.1 hj)
theorem za1z (all:List za) (j:Nat) (h:j<all.length):zcb (all.take (j+1))=keyAt all j:=by
 rw[zdv all j h,zcb,if_neg (List.append_ne_nil_of_right_ne_nil _ (by simp)),zlv,zad all j h]
theorem zlc (a : Option Addr) (cp : Nat) (ps : List za) (w : World) (hfit : fitP ps) (hs : IsPairs w a ps) :
 Calls Tryz.prog 74 #[.slice a ps.length cp] w fun e w'=>∃ (a':Option Addr) (m c:Nat),e=.returned (.tuple #[.slice a' m c,.string ⟨(if zah (allL ps) then zcb (allL ps) else []).toArray⟩,.bool (zah (allL ps))])∧(w'.ownsRow w.heap.size 59 2 (.slice a' m c) (if zah (allL ps) then zu (allL ps) else []).length (zb (if zah (allL ps) then zu (allL ps) else []))∧(zah (allL ps)=true→∃ g,a'=some ⟨g,0,none⟩))∧Below w.heap.size w w':=by
 have K1:=za1u a cp ps w hfit hs
 have hal:=zla ps hfit
 obtain⟨all,hall⟩:∃ all,all=allL ps:=⟨_,rfl⟩
 rw[←hall] at K1 hal ⊢
 have HK2:Hid (∀ a' c' W,IsPairs W a' all→Calls Tryz.prog 96 #[.slice a' all.length c'] W fun e w'=>∃ g c:Nat,e=.returned (.slice (some ⟨g,0,none⟩) (zu all).length c)∧w'.ownsRow W.heap.size 59 2 (.slice (some ⟨g,0,none⟩) (zu all).length c) (zu all).length (zb (zu all))∧Below W.heap.size W w'):=fun a' c' W h=>za1x a' c' all W (by omega) h
 have hol:(zu all).length≤all.length:=by have:=zib all all.length (Nat.le_refl _);rwa [List.take_length] at this
 have HD:Hid ((∀ j,j<all.length→zda all j=(decide ((zm (zu all) (keyAt all j)).getD []=zw all j) && decide (keyAt all j≠emptyL)))∧(∀ j,j<all.length→zda all j=false→zah all=false)∧((∀ j,j<all.length→zda all j=true)→zah all=true)∧(∀ j,j<all.length→zcb (all.take (j+1))=keyAt all j)):=⟨fun j _=>rfl,fun j h=>za1y all j h,zr5 all,fun j h=>za1z all j h⟩
 obtain⟨out,hout⟩:∃ out,out=zu all:=⟨_,rfl⟩
 rw[←hout] at HK2 hol HD ⊢
 obtain⟨ok,hok⟩:∃ ok,ok=zah all:=⟨_,rfl⟩
 rw[←hok] at HD ⊢
 have HR0:Hid (zcb (all.take 0)=emptyL):=by rw[Hid];simp[zcb]
 clear hall hout hok hs hfit
 go_enter Tryz.func74,Tryz.ntmps74
 go_wp2_with fail
 refine K1.mono ?_
 rintro e w1 ⟨a1,c1,rfl,o1,b1⟩
 have s1:=b1.size
 have O1:=zc o1
 clear K1 o1
 go_wp2_with fail
 refine (HK2.out _ _ _ (zac O1.out).2.2).mono ?_
 rintro e w2 ⟨go,co,rfl,o2,b2⟩
 have B2:=b1.trans (b2.mono s1)
 have s2:=B2.size
 have O2:=zc (o2.mono s1)
 have O1b:=zc (zan O1.out b2)
 clear HK2 o2 b2 O1
 go_wp2_with fail
 refine (zlg w2).mono ?_
 rintro e w3 ⟨rfl,b3⟩
 have B3:=B2.trans (b3.mono s2)
 have s3:=B3.size
 have HOA:Hid (∀ W,Below w3.heap.size w3 W→W.ownsRow w.heap.size 59 2 (.slice a1 all.length c1) all.length (zb all)):=fun W h=>zan (zan O1b.out b3) h
 have HOO:Hid (∀ W,Below w3.heap.size w3 W→W.ownsRow w.heap.size 59 2 (.slice (some ⟨go,0,none⟩) out.length co) out.length (zb out)):=fun W h=>zan (zan O2.out b3) h
 clear O1b O2 b3
 go_wp2
 go_loopw [7,8] (fun r i wr=>∃ j:Nat,j≤all.length∧i=.int .i64 (j:Int)∧r=.string ⟨(zcb (all.take j)).toArray⟩∧Hid (∀ q,q<j→zda all q=true)∧Below w3.heap.size w3 wr) (fun _ i _=>all.length - (intOf i).toNat)
 case atStart=>exact⟨0,Nat.zero_le _,rfl,by rw[HR0.out],fun q h=>by omega,Below.refl _ _⟩
 case round =>
  obtain⟨j,hj,rfl,rfl,HG,hbel⟩:=hrel
  have hsz:=hbel.size
  by_cases hlt:j<all.length
  · have OA := HOA.out _ hbel
    have OO:=HOO.out _ hbel
    obtain⟨ga,rfl⟩:∃ ga,a1=some ⟨ga,0,none⟩:=by
     rcases zc9 OA with ⟨_,h0,_⟩ | ⟨g',c',e,_⟩
     · omega
     · cases e;exact⟨_,rfl⟩
    obtain⟨d1,d2⟩:=zic OA j hlt
    have hga:=zci OA
    have KF:=zkr (some ⟨go,0,none⟩) co out (keyAt all j) wr (by omega) (zac OO).2.2
    have HAT:Hid (zda all j=(decide ((zm out (keyAt all j)).getD []=zw all j) && decide (keyAt all j≠emptyL))):=HD.out.1 j hlt
    have HRT:Hid (zcb (all.take (j+1))=keyAt all j):=HD.out.2.2.2 j hlt
    obtain⟨h,hh⟩:∃ h,h=keyAt all j:=⟨_,rfl⟩
    obtain⟨t,ht⟩:∃ t,t=zw all j:=⟨_,rfl⟩
    rw[←hh] at d1 KF HAT HRT
    rw[←ht] at d2 HAT
    obtain⟨x,hx⟩:∃ x,x=(zm out h).getD []:=⟨_,rfl⟩
    rw[←hx] at KF HAT
    have hj1:(j:Int)<(all.length:Int):=by omega
    have hj0':(0:Int)≤(j:Int):=by omega
    clear hh ht hx OA OO
    go_wp2_with fail
    refine KF.mono ?_
    rintro e w4 ⟨rfl,b4⟩
    have B4:=hbel.trans (b4.mono hsz)
    have s4:=B4.size
    have f1:=(b4.cell (p:=⟨ga,j*2,none⟩) hga).trans d1
    have f2:=(b4.cell (p:=⟨ga,j*2+1,none⟩) hga).trans d2
    have hga4:ga<w4.heap.size:=Nat.lt_of_lt_of_le hga b4.size
    have SX:Hid (w4.cell? ⟨ga,j*2,none⟩=some (.string ⟨h.toArray⟩)∧w4.cell? ⟨ga,j*2+1,none⟩=some (.string ⟨t.toArray⟩)):=⟨f1,f2⟩
    have KE:=zlg w4.drew
    clear KF b4 d1 d2
    by_cases hxt:x=t
    · have hxt':t=x:=hxt.symm
      clear hxt
      subst hxt'
      by_cases hhe:h=emptyL
      · obtain rfl:ok=false:=HD.out.2.1 j hlt (by rw[HAT.out];simp[hhe])
        obtain⟨em,hem⟩:∃ em,em=emptyL:=⟨_,rfl⟩
        rw[←hem] at KE hhe
        clear hem HD HAT
        subst hhe
        go_wp2_with fail
        refine wp_region_held_drew (S:=fun w'=>w'.cell? ⟨ga,j*2,none⟩=some (.string ⟨h.toArray⟩)∧w'.cell? ⟨ga,j*2+1,none⟩=some (.string ⟨t.toArray⟩)) (by kernel_rfl) SX.out (fun hHeld=>?_)
        refine yL 0 ?_
        refine yL 1 ?_
        refine yL 2 ?_
        refine yL 3 ?_
        refine yL 4 ?_
        refine yL 5 ?_
        refine yL 6 ?_
        refine yL 7 ?_
        refine yL 8 ?_
        refine yL 9 ?_
        refine yL 10 ?_
        refine yL 11 ?_
        refine yL 12 ?_
        refine wpAnyH_ready (rs:=[13]) (by kernel_rfl) (by simp) ?_
        refine AllReadyH.cons (o:=sm15) rfl (fun K hK=>?_) AllReadyH.nil
        go_simp
        go_at_call 71
        with_reducible refine KE.mono ?_
        rintro e w5 ⟨rfl,b5'⟩
        have b5:Below w4.heap.size w4 w5:=zcp b5'
        have S5:Hid (w5.cell? ⟨ga,j*2,none⟩=some (.string ⟨h.toArray⟩)∧w5.cell? ⟨ga,j*2+1,none⟩=some (.string ⟨t.toArray⟩)):=⟨(b5.cell (p:=⟨ga,j*2,none⟩) hga4).trans SX.out.1,(b5.cell (p:=⟨ga,j*2+1,none⟩) hga4).trans SX.out.2⟩
        have B5:=B4.trans (b5.mono s4)
        clear b5 b5'
        clear hHeld
        refine hK.out _ _ S5.out (fun hHeld=>?_)
        clear hK K
        refine yL 14 ?_
        refine yL 15 ?_
        refine wpAnyH_done (by kernel_rfl) ?_ _
        have BZ:=fun q=>zbj (q:=q) (B3.trans (B5.mono s3))
        have BZ0:=B3.trans (B5.mono s3)
        go_wp2
        go_ret3
        exact⟨none,0,0,rfl,by first | exact World.ownsRow_nil _ _ _ _ | exact⟨World.ownsRow_nil _ _ _ _,fun h=>by cases h⟩,by first | exact BZ0 | exact BZ _⟩
      · have HGN:Hid (∀ q,q<j+1→zda all q=true):=fun q hq=>by
         by_cases hqj:q=j
         · rw[hqj,HAT.out];simp[hhe]
         · exact HG.out q (by omega)
        have hhb:(h == emptyL)=false:=by simp[hhe]
        obtain⟨em,hem⟩:∃ em,em=emptyL:=⟨_,rfl⟩
        rw[←hem] at KE hhb
        clear hem hhe HG HAT
        go_wp2_with fail
        refine wp_region_held_drew (S:=fun w'=>w'.cell? ⟨ga,j*2,none⟩=some (.string ⟨h.toArray⟩)∧w'.cell? ⟨ga,j*2+1,none⟩=some (.string ⟨t.toArray⟩)) (by kernel_rfl) SX.out (fun hHeld=>?_)
        refine yL 0 ?_
        refine yL 1 ?_
        refine yL 2 ?_
        refine yL 3 ?_
        refine yL 4 ?_
        refine yL 5 ?_
        refine yL 6 ?_
        refine yL 7 ?_
        refine yL 8 ?_
        refine yL 9 ?_
        refine yL 10 ?_
        refine yL 11 ?_
        refine yL 12 ?_
        refine wpAnyH_ready (rs:=[13]) (by kernel_rfl) (by simp) ?_
        refine AllReadyH.cons (o:=sm15) rfl (fun K hK=>?_) AllReadyH.nil
        go_simp
        go_at_call 71
        with_reducible refine KE.mono ?_
        rintro e w5 ⟨rfl,b5'⟩
        have b5:Below w4.heap.size w4 w5:=zcp b5'
        have S5:Hid (w5.cell? ⟨ga,j*2,none⟩=some (.string ⟨h.toArray⟩)∧w5.cell? ⟨ga,j*2+1,none⟩=some (.string ⟨t.toArray⟩)):=⟨(b5.cell (p:=⟨ga,j*2,none⟩) hga4).trans SX.out.1,(b5.cell (p:=⟨ga,j*2+1,none⟩) hga4).trans SX.out.2⟩
        have B5:=B4.trans (b5.mono s4)
        clear b5 b5'
        clear hHeld
        refine hK.out _ _ S5.out (fun hHeld=>?_)
        clear hK K
        refine yL 14 ?_
        refine yL 15 ?_
        refine wpAnyH_done (by kernel_rfl) ?_ _
        go_wp2
        go_roundw
        case rel=>exact⟨j+1,by omega,by go_num,by rw[HRT.out],HGN,by first | exact B5 | exact zbj B5⟩
        case measure=>simp[intOf];omega
    · obtain rfl:ok=false:=HD.out.2.1 j hlt (by rw[HAT.out];simp[hxt])
      have hxb:(x == t)=false:=by simp[hxt]
      clear HD HAT
      go_wp2_with fail
      refine wp_region_held_drew (S:=fun w'=>w'.cell? ⟨ga,j*2,none⟩=some (.string ⟨h.toArray⟩)∧w'.cell? ⟨ga,j*2+1,none⟩=some (.string ⟨t.toArray⟩)) (by kernel_rfl) SX.out (fun hHeld=>?_)
      refine yL 0 ?_
      refine yL 1 ?_
      refine yL 2 ?_
      refine yL 3 ?_
      refine yL 4 ?_
      refine yL 5 ?_
      refine yL 6 ?_
      refine yL 7 ?_
      refine nL 8 ?_
      refine nL 9 ?_
      refine nL 10 ?_
      refine nL 11 ?_
      refine nL 12 ?_
      refine nL 13 ?_
      refine nL 14 ?_
      refine yL 15 ?_
      refine wpAnyH_done (by kernel_rfl) ?_ _
      have BZ:=fun q=>zbj (q:=q) (B3.trans (B4.mono s3))
      have BZ0:=B3.trans (B4.mono s3)
      have BZ1:Below w.heap.size w w4.drew:=⟨BZ0.os,BZ0.tape,BZ0.output,BZ0.size,BZ0.block⟩
      go_wp2
      go_ret3
      exact⟨none,0,0,rfl,by first | exact World.ownsRow_nil _ _ _ _ | exact⟨World.ownsRow_nil _ _ _ _,fun h=>by cases h⟩,by first | exact BZ0 | exact BZ1 | exact BZ _⟩
  · obtain rfl:j=all.length:=by omega
    have hj1:¬ (all.length:Int)<(all.length:Int):=by omega
    obtain rfl:ok=true:=HD.out.2.2.1 HG.out
    have OO:=zc (HOO.out _ hbel)
    have BZ:=B3.trans (hbel.mono s3)
    rw[List.take_length]
    clear HD HG HOA HOO
    go_wp2
    go_ret3
    exact⟨_,_,_,rfl,by first | exact⟨OO.out,fun _=>⟨_,rfl⟩⟩ | exact⟨OO.out,⟨_,rfl⟩⟩ | exact OO.out,BZ⟩
end Go.Proofs.YtppljdnbhoeeoaaGreatDoor
