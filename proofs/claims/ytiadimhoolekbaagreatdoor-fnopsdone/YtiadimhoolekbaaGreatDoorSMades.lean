/-
 Texts that are laid as one: SSorted, SMade.
-/
import Derived.Test.YtiadimhoolekbaaGreatDoorSBuilds
namespace Go.Proofs.YtiadimhoolekbaaGreatDoor
open Go.RowKit
set_option linter.unusedVariables false
set_option maxHeartbeats 4000000
set_option maxRecDepth 100000
def zbs:List za→List UInt8→Nat
 | [],_=>0
 | x :: xs,h=>if Op.bytesLess x.1 h=true then zbs xs h+1 else 0
def zbc (out:List za) (p:za):List za:=if zbs out p.1<out.length∧keyAt out (zbs out p.1)=p.1 then out else out.take (zbs out p.1) ++ [p] ++ out.drop (zbs out p.1)
def zl (ns:List za):List za:=ns.foldl zbc []
theorem zt9 (ns:List za) (j:Nat) (h:j<ns.length):zl (ns.take (j+1))=zbc (zl (ns.take j)) ns[j]:=by rw[zds ns j h,zl,List.foldl_append];rfl
theorem zms:∀ (out:List za) (h:List UInt8),zbs out h≤out.length
 | [],_=>Nat.le_refl _
 | x :: xs, h => by
   simp only[zbs]
   split
   · have:=zms xs h;simp;omega
   · omega
theorem zta:∀ (out:List za) (h:List UInt8) (k:Nat),k<out.length→k≤zbs out h→Op.bytesLess (keyAt out k) h=true→k+1≤zbs out h
 | [],_,k,hk,_,_=>by simp at hk
 | x :: xs, h, 0, _, _, hb => by
   have hb':Op.bytesLess x.1 h=true:=hb
   simp[zbs,hb']
 | x :: xs, h, k + 1, hk, hle, hb => by
   simp only[zbs] at hle ⊢
   split at hle
   · rename_i hx
     rw[if_pos hx]
     have hb':Op.bytesLess (keyAt xs k) h=true:=by simpa [keyAt] using hb
     have:=zta xs h k (by simpa using hk) (by omega) hb'
     omega
   · omega
theorem ztb:∀ (out:List za) (h:List UInt8) (k:Nat),k<out.length→k≤zbs out h→Op.bytesLess (keyAt out k) h=false→zbs out h=k
 | [],_,k,hk,_,_=>by simp at hk
 | x :: xs, h, 0, _, _, hb => by
   have hb':Op.bytesLess x.1 h=false:=hb
   simp[zbs,hb']
 | x :: xs, h, k + 1, hk, hle, hb => by
   simp only[zbs] at hle ⊢
   split at hle
   · rename_i hx
     rw[if_pos hx]
     have hb':Op.bytesLess (keyAt xs k) h=false:=by simpa [keyAt] using hb
     have:=ztb xs h k (by simpa using hk) (by omega) hb'
     omega
   · omega
theorem za2v (out:List za) (p:za):(zbc out p).length≤out.length+1:=by
 unfold zbc
 split
 · omega
 · have:=zms out p.1;simp;omega
theorem zf5 (ns:List za):∀ j,j≤ns.length→(zl (ns.take j)).length≤j
 | 0,_=>by simp[zl]
 | j + 1, h => by
   rw[zt9 ns j (by omega)]
   have:=zf5 ns j (by omega)
   have:=za2v (zl (ns.take j)) ns[j]
   omega
theorem ztc {w:World} {B e g n c:Nat} {xs:List Value} (h:w.ownsRow B e 2 (.slice (some ⟨g,0,none⟩) n c) n xs):n≤c:=by
 rcases h.2 with ⟨e,_⟩ | ⟨g',cap',cur,e,_,_,hc,_⟩
 · cases e
 · cases e;exact hc
theorem zji {w:World} {B e g n c:Nat} {ns:List za} (h:w.ownsRow B e 2 (.slice (some ⟨g,0,none⟩) n c) ns.length (zc ns)) (j:Nat) (hj:j<ns.length):w.cell? ⟨g,j*2,none⟩=some (.string ⟨(keyAt ns j).toArray⟩)∧w.cell? ⟨g,j*2+1,none⟩=some (.string ⟨(zv ns j).toArray⟩):=by
 have hp:=ze9 ns j hj
 rw[za9 ns j hj,zaz ns j hj]
 rcases h.2 with ⟨h',_⟩ | ⟨g',cap',cur,h',_⟩
 · cases h'
 · cases h'
   exact⟨(h.cellAt (j*2) (by omega)).trans hp.1,(h.cellAt (j*2+1) (by omega)).trans hp.2⟩
theorem zjj {w:World} {B e g n c:Nat} {ns:List za} (h:w.ownsRow B e 2 (.slice (some ⟨g,0,none⟩) n c) ns.length (zc ns)) (from0 cnt:Nat):∀ j u,(zc ((ns.drop from0).take cnt))[j]? = some u→w.cell? ((⟨g,from0*2,none⟩:Addr).add j)=some u:=by
 intro j u hu
 have hj:=(List.getElem?_eq_some_iff.1 hu).1
 rw[zay,List.length_take,List.length_drop] at hj
 have ea:(⟨g,from0*2,none⟩:Addr).add j=⟨g,from0*2+j,none⟩:=by
  simp only[Addr.add]
  split
  · rename_i h9;rw[h9];rfl
  · rfl
 rw[ea]
 have hq:j / 2<((ns.drop from0).take cnt).length:=by rw[List.length_take,List.length_drop];omega
 have hp:=ze9 ((ns.drop from0).take cnt) (j / 2) hq
 have hn:from0+j / 2<ns.length:=by omega
 have hc:=zji h (from0+j / 2) hn
 rw[za9 ns _ hn,zaz ns _ hn] at hc
 simp only[List.getElem_take,List.getElem_drop] at hp
 rcases Nat.mod_two_eq_zero_or_one j with h0 | h0
 · have e1:j=j / 2*2:=by omega
   rw[e1] at hu
   rw[hp.1] at hu
   rw[show from0*2+j=(from0+j / 2)*2 by omega,←hu]
   exact hc.1
 · have e1:j=j / 2*2+1:=by omega
   rw[e1] at hu
   rw[hp.2] at hu
   rw[show from0*2+j=(from0+j / 2)*2+1 by omega,←hu]
   exact hc.2
theorem zmt (a:Option Addr) (cp:Nat) (ns:List za) (w:World) (hl:ns.length≤10000) (hs:IsPairs w a ns) :
 Calls Tryz.prog 70 #[.slice a ns.length cp] w fun e w'=>∃ g c:Nat,e=.returned (.slice (some ⟨g,0,none⟩) (zl ns).length c)∧w'.ownsRow w.heap.size 83 2 (.slice (some ⟨g,0,none⟩) (zl ns).length c) (zl ns).length (zc (zl ns))∧Below w.heap.size w w':=by
 obtain⟨i0,hi0,hz0,hz1,hz2⟩:=info_parts zfj
 have Ba:Below w.heap.size w (w.alloc (.cells #[] 83)):=(Below.refl _ _).alloc (Nat.le_refl _) _
 have O0:=zf (World.ownsRow_lit (e:=83) (size:=2) w #[] 0 (base:=w.heap.size) (Nat.le_refl _) (Nat.zero_le _) rfl)
 rcases hs with rfl | ⟨b,off,rfl,hc⟩
 · have e0:zl []=[]:=rfl
   rw[e0]
   go_enter Tryz.func70,Tryz.ntmps70
   go_wp2
   refine wp_loop_rounds 1 ?_
   rw[rounds_succ]
   go_wp2
   go_ret
   exact⟨_,_,rfl,O0.out,Ba⟩
 · have HC : Hid (∀ j, j < ns.length → w.cell? ⟨b, off + j * 2, none⟩ = some (.string ⟨(keyAt ns j).toArray⟩) ∧ w.cell? ⟨b, off + j * 2 + 1, none⟩ = some (.string ⟨(zv ns j).toArray⟩)) := fun j h => by rw [za9 ns j h, zaz ns j h]; exact hc j h
   have HSN:Hid (∀ j,j<ns.length→zl (ns.take (j+1))=zbc (zl (ns.take j)) (keyAt ns j,zv ns j)):=fun j h=>by rw[zt9 ns j h,za9 ns j h,zaz ns j h]
   have HSL:Hid (∀ j,j≤ns.length→(zl (ns.take j)).length≤j):=zf5 ns
   clear hc
   go_enter Tryz.func70,Tryz.ntmps70
   go_wp2
   go_loopw [3,4] (fun o i wr=>∃ (j g c:Nat),j≤ns.length∧i=.int .i64 (j:Int)∧o=.slice (some ⟨g,0,none⟩) (zl (ns.take j)).length c∧Hid (wr.ownsRow w.heap.size 83 2 (.slice (some ⟨g,0,none⟩) (zl (ns.take j)).length c) (zl (ns.take j)).length (zc (zl (ns.take j))))∧Below w.heap.size w wr) (fun _ i _=>ns.length - (intOf i).toNat)
   case atStart=>exact⟨0,w.heap.size,0,Nat.zero_le _,rfl,rfl,O0,Ba⟩
   case round =>
    obtain⟨j,g,c,hj,rfl,rfl,HO,hbel⟩:=hrel
    obtain⟨wo,rfl⟩:∃ wo,wo=wr:=⟨_,rfl⟩
    have hsz:=hbel.size
    clear O0 Ba
    by_cases hlt:j<ns.length
    · obtain ⟨c1', c2'⟩ := HC.out j hlt
      have hblt:=World.block_lt_of_cell? w _ c1'
      simp only at hblt
      have HS:Hid (zl (ns.take (j+1))=zbc (zl (ns.take j)) (keyAt ns j,zv ns j)):=HSN.out j hlt
      have hol:=HSL.out j hj
      obtain⟨h,hh⟩:∃ h,h=keyAt ns j:=⟨_,rfl⟩
      obtain⟨t,ht⟩:∃ t,t=zv ns j:=⟨_,rfl⟩
      rw[←hh] at c1' HS
      rw[←ht] at c2' HS
      have C1:Hid (w.cell? ⟨b,off+j*2,none⟩=some (.string ⟨h.toArray⟩)):=c1'
      have C2:Hid (w.cell? ⟨b,off+j*2+1,none⟩=some (.string ⟨t.toArray⟩)):=c2'
      obtain⟨out,hout⟩:∃ out,out=zl (ns.take j):=⟨_,rfl⟩
      rw[←hout] at HS hol HO ⊢
      have hpl:=zms out h
      have hj1:(j:Int)<(ns.length:Int):=by omega
      have hj0':(0:Int)≤(j:Int):=by omega
      have hcap:=ztc HO.out
      have hgl:=(HO.out.lt g rfl)
      clear hh ht c1' c2' hout HC HSN HSL
      go_wp2
      go_loopw [5] (fun kk wx=>∃ k:Nat,k≤out.length∧k≤zbs out h∧kk=.int .i64 (k:Int)∧Below wo.heap.size wo wx) (fun kk _=>out.length - (intOf kk).toNat)
      case atStart=>exact⟨0,Nat.zero_le _,Nat.zero_le _,rfl,Below.refl _ _⟩
      case round =>
       obtain⟨k,hk,hkp,rfl,hb2⟩:=hrel
       have B2:=hbel.trans (hb2.mono hsz)
       have s2:=B2.size
       have sw2:=hb2.size
       have HO2:=zf (zas HO.out hb2)
       have c1:=(B2.cell (p:=⟨b,off+j*2,none⟩) hblt).trans C1.out
       have c2:=(B2.cell (p:=⟨b,off+j*2+1,none⟩) hblt).trans C2.out
       have hk0:(0:Int)≤(k:Int):=by omega
       by_cases hlt2:k<out.length
       · have hk1 : (k : Int) < (out.length : Int) := by omega
         obtain⟨d1,d2⟩:=zji HO2.out k hlt2
         cases hless:Op.bytesLess (keyAt out k) h with
         | true =>
           have hn:=zta out h k hlt2 hkp hless
           obtain⟨z,hz⟩:∃ z,z=keyAt out k:=⟨_,rfl⟩
           rw[←hz] at d1 hless
           have hq:Op.bytesLess (⟨z.toArray⟩:ByteArray).toList (⟨h.toArray⟩:ByteArray).toList=true:=by rw[zb0,zb0];exact hless
           clear hz d2
           go_wp2
           go_quiet (fail)
           go_wp2
           go_roundw
           case rel=>exact⟨k+1,by omega,hn,by go_num,zbu hb2⟩
           case measure=>simp[intOf];omega
         | false =>
           have hpk:=ztb out h k hlt2 hkp hless
           have HZ:Hid (zbc out (h,t)=if keyAt out k=h then out else out.take k ++ [(h,t)] ++ out.drop k):=by
            rw[Hid,zbc];simp only[hpk]
            by_cases he:keyAt out k=h
            · rw[if_pos ⟨hlt2,he⟩,if_pos he]
            · rw[if_neg (fun x=>he x.2),if_neg he]
           obtain⟨z,hz⟩:∃ z,z=keyAt out k:=⟨_,rfl⟩
           rw[←hz] at d1 hless HZ
           have hq:Op.bytesLess (⟨z.toArray⟩:ByteArray).toList (⟨h.toArray⟩:ByteArray).toList=false:=by rw[zb0,zb0];exact hless
           have B2q:∀ q q',Below w.heap.size w ((wr.drewN q).drewN q'):=fun q q'=>zbu (zbu B2)
           by_cases he:z=h
           · have HZ2:Hid (zl (ns.take (j+1))=out):=by rw[Hid,HS.out,HZ.out,if_pos he]
             clear HS HZ hz
             subst he
             go_wp2
             go_quiet (fail)
             go_wp2
             go_quiet (fail)
             go_wp2
             go_roundw
             case rel=>exact⟨j+1,g,c,by omega,by go_num,by rw[HZ2.out],by rw[HZ2.out];exact zas HO2.out ⟨rfl,rfl,rfl,Nat.le_refl _,fun _ _=>rfl⟩,by first | exact B2q _ _ | exact zbu B2⟩
             case measure=>simp[intOf];omega
           · have HZ2:Hid (zl (ns.take (j+1))=out.take k ++ [(h,t)] ++ out.drop k):=by rw[Hid,HS.out,HZ.out,if_neg he]
             have hzb:(z == h)=false:=by simp[he]
             clear HS HZ hz
             go_wp2
             go_quiet (fail)
             go_wp2
             go_quiet (fail)
             generalize hwq:(World.drewN (World.drewN wr _) _)=wq
             have Q2:Below w.heap.size w wq:=by rw[←hwq];exact zbu (zbu B2)
             have HOq:=zf (zas HO2.out (w':=wq) (by rw[←hwq];exact⟨rfl,rfl,rfl,Nat.le_refl _,fun _ _=>rfl⟩))
             have c1q:wq.cell? ⟨b,off+j*2,none⟩=some (.string ⟨h.toArray⟩):=(Q2.cell (p:=⟨b,off+j*2,none⟩) hblt).trans C1.out
             have c2q:wq.cell? ⟨b,off+j*2+1,none⟩=some (.string ⟨t.toArray⟩):=(Q2.cell (p:=⟨b,off+j*2+1,none⟩) hblt).trans C2.out
             have sq:=Q2.size
             have hglq:=(HOq.out.lt g rfl)
             have OL:=zf (World.ownsRow_lit (e:=83) (size:=2) wq #[] 0 (base:=wq.heap.size) (Nat.le_refl _) (Nat.zero_le _) rfl)
             have QA:Below w.heap.size w (wq.alloc (.cells #[] 83)):=Q2.alloc sq _
             have HFA:Hid (∀ i u,(zc (out.take k))[i]? = some u→(wq.alloc (.cells #[] 83)).cell? ((⟨g,0,none⟩:Addr).add i)=some u):=by
              have:=zjj (zas HOq.out ((Below.refl _ _).alloc (Nat.le_refl _) (.cells #[] 83))) 0 k
              rw[Hid]
              simpa using this
             have HLA:Hid ((zc (out.take k)).length=k*2):=by rw[Hid,zay,List.length_take,Nat.min_eq_left hk]
             have HLC:Hid ((zc (out.drop k)).length=(out.length - k)*2):=by rw[Hid,zay,List.length_drop]
             have HA3:Hid (∀ w3:World,(wq.alloc (.cells #[] 83)).grownBy w3 (Value.slice (some ⟨wq.heap.size,0,none⟩) 0 0).ownBlock→Below wq.heap.size wq w3∧Below w.heap.size w w3∧wq.heap.size<w3.heap.size∧w3.cell? ⟨b,off+j*2,none⟩=some (.string ⟨h.toArray⟩)∧w3.cell? ⟨b,off+j*2+1,none⟩=some (.string ⟨t.toArray⟩)):=by
              intro w3 hg3
              have Bx:Below wq.heap.size wq w3:=((Below.refl _ _).alloc (Nat.le_refl _) _).grown hg3 (by simp) (fun k hk=>by simp[Value.ownBlock] at hk;omega)
              have By:=Q2.trans (Bx.mono sq)
              exact⟨Bx,By,by have:=hg3.size;simp at this;omega,(By.cell (p:=⟨b,off+j*2,none⟩) hblt).trans C1.out,(By.cell (p:=⟨b,off+j*2+1,none⟩) hblt).trans C2.out⟩
             have HA4:Hid (∀ (w3 w4:World) (v3:Value) (n3:Nat) (x3:List Value),Below wq.heap.size wq w3→wq.heap.size<w3.heap.size→w3.ownsRow wq.heap.size 83 2 v3 n3 x3→(w3.alloc (.cells #[.string ⟨h.toArray⟩,.string ⟨t.toArray⟩] 83)).grownBy w4 v3.ownBlock→Below wq.heap.size wq w4∧wq.heap.size<w4.heap.size∧(∀ i u,(zc (out.drop k))[i]? = some u→w4.cell? ((⟨g,k*2,none⟩:Addr).add i)=some u)):=by
              intro w3 w4 v3 n3 x3 Bx hsx ho hg4
              have Bz:Below wq.heap.size wq w4:=(Bx.alloc (by omega) _).grown hg4 (by simp;omega) (fun k hk=>(ho.lt k hk).1)
              refine⟨Bz,by have:=hg4.size;simp at this;omega,?_⟩
              have:=zjj (zas HOq.out Bz) k (out.length - k)
              rw[List.take_of_length_le (by rw[List.length_drop];omega)] at this
              exact this
             have hkc':(k:Int)≤(c:Int):=by omega
             have hkl':(k:Int)≤(out.length:Int):=by omega
             clear hwq HO2 HO c1 c2 B2
             have hck:¬ c=k:=by omega
             go_wp2_with (first | (at_builtin;refine wpList_append_own _ rfl _ _ 24 rfl wq.heap.size 83 i0 (.agg #[.string ⟨#[]⟩,.string ⟨#[]⟩]) 2 32 Tryz.underlying24 hi0 hz0 hz1 hz2 rfl (by decide) v4 (0+k+1) _ rfl OV4.out ⟨g,k*2,none⟩ (out.length - k) (c - k) (zc (out.drop k)) rfl HLC.out HF4 (pone _) (by unfold maxLen;omega) (by omega) (by first | omega | (simp <;> omega)) ?_;intro v6 w6 hown6 hgrow6 hnil6) | (at_builtin;refine wpList_append_own _ rfl _ _ 24 rfl wq.heap.size 83 i0 (.agg #[.string ⟨#[]⟩,.string ⟨#[]⟩]) 2 32 Tryz.underlying24 hi0 hz0 hz1 hz2 rfl (by decide) v3 (0+k) _ rfl (OV3.out.alloc _) ⟨w3.heap.size,0,none⟩ 1 1 [.string ⟨h.toArray⟩,.string ⟨t.toArray⟩] rfl rfl (World.news_of_block (cs:=#[.string ⟨h.toArray⟩,.string ⟨t.toArray⟩]) (t:=83) (fr:=(0,0)) (heap_alloc_new w3 _)) (by simp[Value.oneCell']) (by unfold maxLen;omega) (by omega) (by first | omega | (simp <;> omega)) ?_;intro v4 w4 hown4 hgrow4 hnil4;obtain⟨B4,hs4,HF4⟩:=HA4.out w3 w4 v3 _ _ Bx3 hs3 OV3.out hgrow4;have OV4:=zf hown4;clear hown4 hgrow4 hnil4 OV3) | (at_builtin;refine wpList_append_own _ rfl _ _ 24 rfl wq.heap.size 83 i0 (.agg #[.string ⟨#[]⟩,.string ⟨#[]⟩]) 2 32 Tryz.underlying24 hi0 hz0 hz1 hz2 rfl (by decide) (.slice (some ⟨wq.heap.size,0,none⟩) 0 0) 0 _ rfl OL.out ⟨g,0,none⟩ k c (zc (out.take k)) rfl HLA.out HFA.out (pone _) (by unfold maxLen;omega) (by omega) (by first | omega | (simp <;> omega)) ?_;intro v3 w3 hown3 hgrow3 hnil3;obtain⟨Bx3,By3,hs3,c1r,c2r⟩:=HA3.out w3 hgrow3;have OV3:=zf hown3;clear hown3 hgrow3 hnil3 c1q c2q))
             have B6:Below w.heap.size w w6:=Q2.trans ((B4.grown hgrow6 (by omega) (fun k hk=>(OV4.out.lt k hk).1)).mono sq)
             have HE6:Hid (w6.ownsRow w.heap.size 83 2 v6 (zl (ns.take (j+1))).length (zc (zl (ns.take (j+1))))):=by
              have e1:(zl (ns.take (j+1))).length=0+k+1+(out.length - k):=by rw[HZ2.out];simp;omega
              have e2:zc (zl (ns.take (j+1)))=[] ++ zc (out.take k) ++ [.string ⟨h.toArray⟩,.string ⟨t.toArray⟩] ++ zc (out.drop k):=by rw[HZ2.out,zai,zai];rfl
              rw[Hid,e1,e2]
              have:=hown6.mono sq
              first | exact this | (rw[hdk.out] at *;simpa [zc] using this)
             obtain⟨g6,c6,rfl⟩:∃ g6 c6,v6=.slice (some ⟨g6,0,none⟩) (zl (ns.take (j+1))).length c6:=by
              rcases zcb HE6.out with ⟨e,hn,_⟩ | ⟨g6,c6,e,_⟩
              · exfalso;rw[HZ2.out] at hn;simp at hn
              · exact⟨g6,c6,e⟩
             clear hown6 hgrow6 hnil6 HA3 HA4 HFA HLA HLC OL OV4 HZ2
             go_wp2
             go_roundw
             case rel=>exact⟨j+1,g6,c6,by omega,by go_num,rfl,HE6,B6⟩
             case measure=>simp[intOf];omega
       · have hk1:¬ (k:Int)<(out.length:Int):=by omega
         have hko:k=out.length:=by omega
         have hpk:zbs out h=k:=by omega
         have HZ2:Hid (zl (ns.take (j+1))=out.take k ++ [(h,t)] ++ out.drop k):=by
          rw[Hid,HS.out,zbc];simp only[hpk]
          rw[if_neg (fun x=>by omega)]
         have HKO:Hid (k=out.length):=hko
         clear HS hpk hko
         go_wp2
         go_quiet (fail)
         go_wp2
         go_quiet (fail)
         generalize hwq:(World.drewN (World.drewN wr _) _)=wq
         have Q2:Below w.heap.size w wq:=by rw[←hwq];exact zbu (zbu B2)
         have HOq:=zf (zas HO2.out (w':=wq) (by rw[←hwq];exact⟨rfl,rfl,rfl,Nat.le_refl _,fun _ _=>rfl⟩))
         have c1q:wq.cell? ⟨b,off+j*2,none⟩=some (.string ⟨h.toArray⟩):=(Q2.cell (p:=⟨b,off+j*2,none⟩) hblt).trans C1.out
         have c2q:wq.cell? ⟨b,off+j*2+1,none⟩=some (.string ⟨t.toArray⟩):=(Q2.cell (p:=⟨b,off+j*2+1,none⟩) hblt).trans C2.out
         have sq:=Q2.size
         have hglq:=(HOq.out.lt g rfl)
         have OL:=zf (World.ownsRow_lit (e:=83) (size:=2) wq #[] 0 (base:=wq.heap.size) (Nat.le_refl _) (Nat.zero_le _) rfl)
         have QA:Below w.heap.size w (wq.alloc (.cells #[] 83)):=Q2.alloc sq _
         have HFA:Hid (∀ i u,(zc (out.take k))[i]? = some u→(wq.alloc (.cells #[] 83)).cell? ((⟨g,0,none⟩:Addr).add i)=some u):=by
          have:=zjj (zas HOq.out ((Below.refl _ _).alloc (Nat.le_refl _) (.cells #[] 83))) 0 k
          rw[Hid]
          simpa using this
         have HLA:Hid ((zc (out.take k)).length=k*2):=by rw[Hid,zay,List.length_take,Nat.min_eq_left hk]
         have HLC:Hid ((zc (out.drop k)).length=(out.length - k)*2):=by rw[Hid,zay,List.length_drop]
         have HA3:Hid (∀ w3:World,(wq.alloc (.cells #[] 83)).grownBy w3 (Value.slice (some ⟨wq.heap.size,0,none⟩) 0 0).ownBlock→Below wq.heap.size wq w3∧Below w.heap.size w w3∧wq.heap.size<w3.heap.size∧w3.cell? ⟨b,off+j*2,none⟩=some (.string ⟨h.toArray⟩)∧w3.cell? ⟨b,off+j*2+1,none⟩=some (.string ⟨t.toArray⟩)):=by
          intro w3 hg3
          have Bx:Below wq.heap.size wq w3:=((Below.refl _ _).alloc (Nat.le_refl _) _).grown hg3 (by simp) (fun k hk=>by simp[Value.ownBlock] at hk;omega)
          have By:=Q2.trans (Bx.mono sq)
          exact⟨Bx,By,by have:=hg3.size;simp at this;omega,(By.cell (p:=⟨b,off+j*2,none⟩) hblt).trans C1.out,(By.cell (p:=⟨b,off+j*2+1,none⟩) hblt).trans C2.out⟩
         have HA4:Hid (∀ (w3 w4:World) (v3:Value) (n3:Nat) (x3:List Value),Below wq.heap.size wq w3→wq.heap.size<w3.heap.size→w3.ownsRow wq.heap.size 83 2 v3 n3 x3→(w3.alloc (.cells #[.string ⟨h.toArray⟩,.string ⟨t.toArray⟩] 83)).grownBy w4 v3.ownBlock→Below wq.heap.size wq w4∧wq.heap.size<w4.heap.size∧(∀ i u,(zc (out.drop k))[i]? = some u→w4.cell? ((⟨g,k*2,none⟩:Addr).add i)=some u)):=by
          intro w3 w4 v3 n3 x3 Bx hsx ho hg4
          have Bz:Below wq.heap.size wq w4:=(Bx.alloc (by omega) _).grown hg4 (by simp;omega) (fun k hk=>(ho.lt k hk).1)
          refine⟨Bz,by have:=hg4.size;simp at this;omega,?_⟩
          have:=zjj (zas HOq.out Bz) k (out.length - k)
          rw[List.take_of_length_le (by rw[List.length_drop];omega)] at this
          exact this
         have hkc':(k:Int)≤(c:Int):=by omega
         have hkl':(k:Int)≤(out.length:Int):=by omega
         clear hwq HO2 HO c1 c2 B2
         by_cases hck:c=k
         · have hdk:Hid (out.drop k=[]):=List.drop_eq_nil_of_le (by omega)
           go_wp2_with (first | (at_builtin;refine wpList_append_own _ rfl _ _ 24 rfl wq.heap.size 83 i0 (.agg #[.string ⟨#[]⟩,.string ⟨#[]⟩]) 2 32 Tryz.underlying24 hi0 hz0 hz1 hz2 rfl (by decide) v4 (0+k+1) _ rfl OV4.out ⟨g,0,none⟩ (out.length - k) 0 (zc (out.drop k)) rfl HLC.out (fun i u hu=>by rw[hdk.out] at hu;simp[zc] at hu) (pone _) (by unfold maxLen;omega) (by omega) (by first | omega | (simp <;> omega)) ?_;intro v6 w6 hown6 hgrow6 hnil6) | (at_builtin;refine wpList_append_own _ rfl _ _ 24 rfl wq.heap.size 83 i0 (.agg #[.string ⟨#[]⟩,.string ⟨#[]⟩]) 2 32 Tryz.underlying24 hi0 hz0 hz1 hz2 rfl (by decide) v3 (0+k) _ rfl (OV3.out.alloc _) ⟨w3.heap.size,0,none⟩ 1 1 [.string ⟨h.toArray⟩,.string ⟨t.toArray⟩] rfl rfl (World.news_of_block (cs:=#[.string ⟨h.toArray⟩,.string ⟨t.toArray⟩]) (t:=83) (fr:=(0,0)) (heap_alloc_new w3 _)) (by simp[Value.oneCell']) (by unfold maxLen;omega) (by omega) (by first | omega | (simp <;> omega)) ?_;intro v4 w4 hown4 hgrow4 hnil4;obtain⟨B4,hs4,HF4⟩:=HA4.out w3 w4 v3 _ _ Bx3 hs3 OV3.out hgrow4;have OV4:=zf hown4;clear hown4 hgrow4 hnil4 OV3) | (at_builtin;refine wpList_append_own _ rfl _ _ 24 rfl wq.heap.size 83 i0 (.agg #[.string ⟨#[]⟩,.string ⟨#[]⟩]) 2 32 Tryz.underlying24 hi0 hz0 hz1 hz2 rfl (by decide) (.slice (some ⟨wq.heap.size,0,none⟩) 0 0) 0 _ rfl OL.out ⟨g,0,none⟩ k k (zc (out.take k)) rfl HLA.out HFA.out (pone _) (by unfold maxLen;omega) (by omega) (by first | omega | (simp <;> omega)) ?_;intro v3 w3 hown3 hgrow3 hnil3;obtain⟨Bx3,By3,hs3,c1r,c2r⟩:=HA3.out w3 hgrow3;have OV3:=zf hown3;clear hown3 hgrow3 hnil3 c1q c2q))
           have B6:Below w.heap.size w w6:=Q2.trans ((B4.grown hgrow6 (by omega) (fun k hk=>(OV4.out.lt k hk).1)).mono sq)
           have HE6:Hid (w6.ownsRow w.heap.size 83 2 v6 (zl (ns.take (j+1))).length (zc (zl (ns.take (j+1))))):=by
            have e1:(zl (ns.take (j+1))).length=0+k+1+(out.length - k):=by rw[HZ2.out];simp;omega
            have e2:zc (zl (ns.take (j+1)))=[] ++ zc (out.take k) ++ [.string ⟨h.toArray⟩,.string ⟨t.toArray⟩] ++ zc (out.drop k):=by rw[HZ2.out,zai,zai];rfl
            rw[Hid,e1,e2]
            have:=hown6.mono sq
            first | exact this | (rw[hdk.out] at *;simpa [zc] using this)
           obtain⟨g6,c6,rfl⟩:∃ g6 c6,v6=.slice (some ⟨g6,0,none⟩) (zl (ns.take (j+1))).length c6:=by
            rcases zcb HE6.out with ⟨e,hn,_⟩ | ⟨g6,c6,e,_⟩
            · exfalso;rw[HZ2.out] at hn;simp at hn
            · exact⟨g6,c6,e⟩
           clear hown6 hgrow6 hnil6 HA3 HA4 HFA HLA HLC OL OV4 HZ2
           go_wp2
           go_roundw
           case rel=>exact⟨j+1,g6,c6,by omega,by go_num,rfl,HE6,B6⟩
           case measure=>simp[intOf];omega
         · go_wp2_with (first | (at_builtin;refine wpList_append_own _ rfl _ _ 24 rfl wq.heap.size 83 i0 (.agg #[.string ⟨#[]⟩,.string ⟨#[]⟩]) 2 32 Tryz.underlying24 hi0 hz0 hz1 hz2 rfl (by decide) v4 (0+k+1) _ rfl OV4.out ⟨g,k*2,none⟩ (out.length - k) (c - k) (zc (out.drop k)) rfl HLC.out HF4 (pone _) (by unfold maxLen;omega) (by omega) (by first | omega | (simp <;> omega)) ?_;intro v6 w6 hown6 hgrow6 hnil6) | (at_builtin;refine wpList_append_own _ rfl _ _ 24 rfl wq.heap.size 83 i0 (.agg #[.string ⟨#[]⟩,.string ⟨#[]⟩]) 2 32 Tryz.underlying24 hi0 hz0 hz1 hz2 rfl (by decide) v3 (0+k) _ rfl (OV3.out.alloc _) ⟨w3.heap.size,0,none⟩ 1 1 [.string ⟨h.toArray⟩,.string ⟨t.toArray⟩] rfl rfl (World.news_of_block (cs:=#[.string ⟨h.toArray⟩,.string ⟨t.toArray⟩]) (t:=83) (fr:=(0,0)) (heap_alloc_new w3 _)) (by simp[Value.oneCell']) (by unfold maxLen;omega) (by omega) (by first | omega | (simp <;> omega)) ?_;intro v4 w4 hown4 hgrow4 hnil4;obtain⟨B4,hs4,HF4⟩:=HA4.out w3 w4 v3 _ _ Bx3 hs3 OV3.out hgrow4;have OV4:=zf hown4;clear hown4 hgrow4 hnil4 OV3) | (at_builtin;refine wpList_append_own _ rfl _ _ 24 rfl wq.heap.size 83 i0 (.agg #[.string ⟨#[]⟩,.string ⟨#[]⟩]) 2 32 Tryz.underlying24 hi0 hz0 hz1 hz2 rfl (by decide) (.slice (some ⟨wq.heap.size,0,none⟩) 0 0) 0 _ rfl OL.out ⟨g,0,none⟩ k c (zc (out.take k)) rfl HLA.out HFA.out (pone _) (by unfold maxLen;omega) (by omega) (by first | omega | (simp <;> omega)) ?_;intro v3 w3 hown3 hgrow3 hnil3;obtain⟨Bx3,By3,hs3,c1r,c2r⟩:=HA3.out w3 hgrow3;have OV3:=zf hown3;clear hown3 hgrow3 hnil3 c1q c2q))
           have B6:Below w.heap.size w w6:=Q2.trans ((B4.grown hgrow6 (by omega) (fun k hk=>(OV4.out.lt k hk).1)).mono sq)
           have HE6:Hid (w6.ownsRow w.heap.size 83 2 v6 (zl (ns.take (j+1))).length (zc (zl (ns.take (j+1))))):=by
            have e1:(zl (ns.take (j+1))).length=0+k+1+(out.length - k):=by rw[HZ2.out];simp;omega
            have e2:zc (zl (ns.take (j+1)))=[] ++ zc (out.take k) ++ [.string ⟨h.toArray⟩,.string ⟨t.toArray⟩] ++ zc (out.drop k):=by rw[HZ2.out,zai,zai];rfl
            rw[Hid,e1,e2]
            have:=hown6.mono sq
            first | exact this | (rw[hdk.out] at *;simpa [zc] using this)
           obtain⟨g6,c6,rfl⟩:∃ g6 c6,v6=.slice (some ⟨g6,0,none⟩) (zl (ns.take (j+1))).length c6:=by
            rcases zcb HE6.out with ⟨e,hn,_⟩ | ⟨g6,c6,e,_⟩
            · exfalso;rw[HZ2.out] at hn;simp at hn
            · exact⟨g6,c6,e⟩
           clear hown6 hgrow6 hnil6 HA3 HA4 HFA HLA HLC OL OV4 HZ2
           go_wp2
           go_roundw
           case rel=>exact⟨j+1,g6,c6,by omega,by go_num,rfl,HE6,B6⟩
           case measure=>simp[intOf];omega
    · obtain rfl:j=ns.length:=by omega
      have hj1:¬ (ns.length:Int)<(ns.length:Int):=by omega
      rw[List.take_length] at HO ⊢
      go_wp2
      go_ret
      exact⟨g,c,rfl,HO.out,hbel⟩
abbrev sm0 : Oper := { dst := some 32, op := Op.move (Operand.tmp 9), type := 9, pos := "l05_tries.go:116", after := #[], guard := none }
abbrev sm1 : Oper := { dst := some 33, op := Op.move (Operand.tmp 5), type := 24, pos := "l05_tries.go:116", after := #[], guard := none }
abbrev sm2 : Oper := { dst := some 34, op := Op.move (Operand.tmp 8), type := 3, pos := "l05_tries.go:116", after := #[], guard := none }
abbrev sm3 : Oper := { dst := some 35, op := Op.indexAddr 24 (Operand.tmp 33) (Operand.tmp 34), type := 0, pos := "l05_tries.go:116", after := #[{ on := 1, ground := Ground.data }, { on := 2, ground := Ground.data }], guard := none }
abbrev sm4 : Oper := { dst := some 36, op := Op.fieldAddr 83 (Operand.tmp 35) 1, type := 0, pos := "l05_tries.go:116", after := #[{ on := 3, ground := Ground.data }], guard := none }
abbrev sm5 : Oper := { dst := some 37, op := Op.load 9 (Operand.tmp 36), type := 9, pos := "l05_tries.go:116", after := #[{ on := 4, ground := Ground.data }], guard := none }
abbrev sm6 : Oper := { dst := some 38, op := Op.binOp BinOp.neq 9 (Operand.tmp 32) (Operand.tmp 37) 9, type := 4, pos := "l05_tries.go:116", after := #[{ on := 0, ground := Ground.data }, { on := 5, ground := Ground.data }], guard := none }
abbrev sm7 : Oper := { dst := some 39, op := Op.move (Operand.tmp 38), type := 4, pos := "l05_tries.go:116", after := #[{ on := 6, ground := Ground.data }], guard := none }
abbrev sm8 : Oper := { dst := some 40, op := Op.move (Operand.tmp 5), type := 24, pos := "l05_tries.go:116", after := #[{ on := 7, ground := Ground.guard }], guard := some (7, false) }
abbrev sm9 : Oper := { dst := some 41, op := Op.move (Operand.tmp 8), type := 3, pos := "l05_tries.go:116", after := #[{ on := 7, ground := Ground.guard }], guard := some (7, false) }
abbrev sm10 : Oper := { dst := some 42, op := Op.indexAddr 24 (Operand.tmp 40) (Operand.tmp 41), type := 0, pos := "l05_tries.go:116", after := #[{ on := 8, ground := Ground.data }, { on := 9, ground := Ground.data }, { on := 7, ground := Ground.guard }], guard := some (7, false) }
abbrev sm11 : Oper := { dst := some 43, op := Op.fieldAddr 83 (Operand.tmp 42) 0, type := 0, pos := "l05_tries.go:116", after := #[{ on := 10, ground := Ground.data }, { on := 7, ground := Ground.guard }], guard := some (7, false) }
abbrev sm12 : Oper := { dst := some 44, op := Op.load 9 (Operand.tmp 43), type := 9, pos := "l05_tries.go:116", after := #[{ on := 11, ground := Ground.data }, { on := 7, ground := Ground.guard }], guard := some (7, false) }
abbrev sm13 : Oper := { dst := some 46, op := Op.binOp BinOp.eql 9 (Operand.tmp 44) (Operand.tmp 45) 9, type := 4, pos := "l05_tries.go:116", after := #[{ on := 12, ground := Ground.data }, { on := 13, ground := Ground.data }, { on := 7, ground := Ground.guard }], guard := some (7, false) }
abbrev sm14 : Oper := { dst := some 47, op := Op.pick (Operand.tmp 39) (Operand.const (Value.bool true)) (Operand.tmp 46), type := 4, pos := "l05_tries.go:116", after := #[{ on := 7, ground := Ground.data }, { on := 14, ground := Ground.data }], guard := none }
abbrev sm15 : Oper := { dst := some 45, op := Op.call { callee := Callee.value (Operand.func 35), args := #[], argTypes := #[] }, type := 9, pos := "l05_tries.go:116", after := #[{ on := 7, ground := Ground.chain }, { on := 7, ground := Ground.guard }], guard := some (7, false) }
theorem tkm {P:Program} {ops:Array Oper} {Q:Exit→Act→World→Prop} {md:Region.Mode} {S:World→Prop} {i:Nat} {oi:Oper} {v:Value} {fuel:Nat} {listed:Array Bool} {a:Act} {w:World} (hi:ops[i]? = some oi) (hy:YieldsIf P ops S oi v a) (hS:S w)
 (h:wpAnyH P md ops Q S fuel (listed.setIfInBounds i true) (a.put oi.dst v) w) (hs:Region.noSelect ops=true:=by kernel_rfl) (hf:Region.free md ops listed i=true:=by kernel_rfl) (hr:(Region.ready md ops listed).contains i=true:=by kernel_rfl)
 (hQ:∀ c a w,Q (.panic c) (a.put oi.dst v) w→Q (.panic c) a w:=by exact fun _ _ _ h=>h):wpAnyH P md ops Q S (fuel+1) listed a w :=
 wpAnyH_take hi hs hf hr hQ hy hS h
def zdm (all:List za) (i:Nat):Bool:=decide ((zh (zl all) (keyAt all i)).getD []=zv all i) && decide (keyAt all i≠emptyL)
def zah (all:List za):Bool:=(List.range all.length).all (zdm all)
def zbt (all:List za):List UInt8:=if all=[] then emptyL else zt all
def zy (ps:List za):Bool:=zq ps && zah (allL ps)
def zab (ps:List za):List UInt8:=if zy ps then zbt (allL ps) else []
theorem za2w (all:List za) (j:Nat) (hj:j<all.length) (h:zdm all j=false):zah all=false:=by
 rw[zah,List.all_eq_false];exact⟨j,List.mem_range.2 hj,by simp[h]⟩
theorem ztd (all:List za) (h:∀ j,j<all.length→zdm all j=true):zah all=true:=by
 rw[zah,List.all_eq_true];exact fun j hj=>h j (List.mem_range.1 hj)
theorem za2x (all:List za) (j:Nat) (h:j<all.length):zbt (all.take (j+1))=keyAt all j:=by
 rw[zds all j h,zbt,if_neg (List.append_ne_nil_of_right_ne_nil _ (by simp)),zho,za9 all j h]
theorem zjk (a : Option Addr) (cp : Nat) (ps : List za) (w : World) (hfit : fitP ps) (hs : IsPairs w a ps) :
 Calls Tryz.prog 46 #[.slice a ps.length cp] w fun e w'=>∃ (a':Option Addr) (m c:Nat),e=.returned (.tuple #[.slice a' m c,.string ⟨(if zah (allL ps) then zbt (allL ps) else []).toArray⟩,.bool (zah (allL ps))])∧(w'.ownsRow w.heap.size 83 2 (.slice a' m c) (if zah (allL ps) then zl (allL ps) else []).length (zc (if zah (allL ps) then zl (allL ps) else []))∧(zah (allL ps)=true→∃ g,a'=some ⟨g,0,none⟩))∧Below w.heap.size w w':=by
 have K1:=za2t a cp ps w hfit hs
 have hal:=zmr ps hfit
 obtain⟨all,hall⟩:∃ all,all=allL ps:=⟨_,rfl⟩
 rw[←hall] at K1 hal ⊢
 have HK2:Hid (∀ a' c' W,IsPairs W a' all→Calls Tryz.prog 70 #[.slice a' all.length c'] W fun e w'=>∃ g c:Nat,e=.returned (.slice (some ⟨g,0,none⟩) (zl all).length c)∧w'.ownsRow W.heap.size 83 2 (.slice (some ⟨g,0,none⟩) (zl all).length c) (zl all).length (zc (zl all))∧Below W.heap.size W w'):=fun a' c' W h=>zmt a' c' all W (by omega) h
 have hol:(zl all).length≤all.length:=by have:=zf5 all all.length (Nat.le_refl _);rwa [List.take_length] at this
 have HD:Hid ((∀ j,j<all.length→zdm all j=(decide ((zh (zl all) (keyAt all j)).getD []=zv all j) && decide (keyAt all j≠emptyL)))∧(∀ j,j<all.length→zdm all j=false→zah all=false)∧((∀ j,j<all.length→zdm all j=true)→zah all=true)∧(∀ j,j<all.length→zbt (all.take (j+1))=keyAt all j)):=⟨fun j _=>rfl,fun j h=>za2w all j h,ztd all,fun j h=>za2x all j h⟩
 obtain⟨out,hout⟩:∃ out,out=zl all:=⟨_,rfl⟩
 rw[←hout] at HK2 hol HD ⊢
 obtain⟨ok,hok⟩:∃ ok,ok=zah all:=⟨_,rfl⟩
 rw[←hok] at HD ⊢
 have HR0:Hid (zbt (all.take 0)=emptyL):=by rw[Hid];simp[zbt]
 clear hall hout hok hs hfit
 go_enter Tryz.func46,Tryz.ntmps46
 go_wp2_with fail
 refine K1.mono ?_
 rintro e w1 ⟨a1,c1,rfl,o1,b1⟩
 have s1:=b1.size
 have O1:=zf o1
 clear K1 o1
 go_wp2_with fail
 refine (HK2.out _ _ _ (za8 O1.out).2.2).mono ?_
 rintro e w2 ⟨go,co,rfl,o2,b2⟩
 have B2:=b1.trans (b2.mono s1)
 have s2:=B2.size
 have O2:=zf (o2.mono s1)
 have O1b:=zf (zas O1.out b2)
 clear HK2 o2 b2 O1
 go_wp2_with fail
 refine (zjq w2).mono ?_
 rintro e w3 ⟨rfl,b3⟩
 have B3:=B2.trans (b3.mono s2)
 have s3:=B3.size
 have HOA:Hid (∀ W,Below w3.heap.size w3 W→W.ownsRow w.heap.size 83 2 (.slice a1 all.length c1) all.length (zc all)):=fun W h=>zas (zas O1b.out b3) h
 have HOO:Hid (∀ W,Below w3.heap.size w3 W→W.ownsRow w.heap.size 83 2 (.slice (some ⟨go,0,none⟩) out.length co) out.length (zc out)):=fun W h=>zas (zas O2.out b3) h
 clear O1b O2 b3
 go_wp2
 go_loopw [7,8] (fun r i wr=>∃ j:Nat,j≤all.length∧i=.int .i64 (j:Int)∧r=.string ⟨(zbt (all.take j)).toArray⟩∧Hid (∀ q,q<j→zdm all q=true)∧Below w3.heap.size w3 wr) (fun _ i _=>all.length - (intOf i).toNat)
 case atStart=>exact⟨0,Nat.zero_le _,rfl,by rw[HR0.out],fun q h=>by omega,Below.refl _ _⟩
 case round =>
  obtain⟨j,hj,rfl,rfl,HG,hbel⟩:=hrel
  have hsz:=hbel.size
  by_cases hlt:j<all.length
  · have OA := HOA.out _ hbel
    have OO:=HOO.out _ hbel
    obtain⟨ga,rfl⟩:∃ ga,a1=some ⟨ga,0,none⟩:=by
     rcases zcb OA with ⟨_,h0,_⟩ | ⟨g',c',e,_⟩
     · omega
     · cases e;exact⟨_,rfl⟩
    obtain⟨d1,d2⟩:=zji OA j hlt
    have hga:=ze7 OA
    have KF:=zj4 (some ⟨go,0,none⟩) co out (keyAt all j) wr (by omega) (za8 OO).2.2
    have HAT:Hid (zdm all j=(decide ((zh out (keyAt all j)).getD []=zv all j) && decide (keyAt all j≠emptyL))):=HD.out.1 j hlt
    have HRT:Hid (zbt (all.take (j+1))=keyAt all j):=HD.out.2.2.2 j hlt
    obtain⟨h,hh⟩:∃ h,h=keyAt all j:=⟨_,rfl⟩
    obtain⟨t,ht⟩:∃ t,t=zv all j:=⟨_,rfl⟩
    rw[←hh] at d1 KF HAT HRT
    rw[←ht] at d2 HAT
    obtain⟨x,hx⟩:∃ x,x=(zh out h).getD []:=⟨_,rfl⟩
    rw[←hx] at KF HAT
    have hj1:(j:Int)<(all.length:Int):=by omega
    have hj0':(0:Int)≤(j:Int):=by omega
    clear hh ht hx OA OO
    go_wp2_with fail
    refine KF.mono ?_
    rintro e w4 ⟨rfl,b4⟩
    have B4:=hbel.trans (b4.mono hsz)
    have s4:=B4.size
    have f1:=(b4.cell (p:=⟨ga,j*2,none⟩) hga).trans d1
    have f2:=(b4.cell (p:=⟨ga,j*2+1,none⟩) hga).trans d2
    have hga4:ga<w4.heap.size:=Nat.lt_of_lt_of_le hga b4.size
    have SX:Hid (w4.cell? ⟨ga,j*2,none⟩=some (.string ⟨h.toArray⟩)∧w4.cell? ⟨ga,j*2+1,none⟩=some (.string ⟨t.toArray⟩)):=⟨f1,f2⟩
    have KE:=zjq w4.drew
    clear KF b4 d1 d2
    by_cases hxt:x=t
    · have hxt':t=x:=hxt.symm
      clear hxt
      subst hxt'
      by_cases hhe:h=emptyL
      · obtain rfl:ok=false:=HD.out.2.1 j hlt (by rw[HAT.out];simp[hhe])
        obtain⟨em,hem⟩:∃ em,em=emptyL:=⟨_,rfl⟩
        rw[←hem] at KE hhe
        clear hem HD HAT
        subst hhe
        go_wp2_with fail
        refine wp_region_held_drew (S:=fun w'=>w'.cell? ⟨ga,j*2,none⟩=some (.string ⟨h.toArray⟩)∧w'.cell? ⟨ga,j*2+1,none⟩=some (.string ⟨t.toArray⟩)) (by kernel_rfl) SX.out (fun hHeld=>?_)
        refine tkm (i:=0) (oi:=sm0) (v:=?vb0) rfl (.inl ⟨by rfl,?yb0⟩) (by assumption) ?rb0
        case yb0=>(intro w hSw;(try dsimp only at hSw);go_simp;(try with_reducible rfl))
        try simp only[Act.put,List.setIfInBounds_toArray,List.set_cons_zero,List.set_cons_succ]
        refine tkm (i:=1) (oi:=sm1) (v:=?vb1) rfl (.inl ⟨by rfl,?yb1⟩) (by assumption) ?rb1
        case yb1=>(intro w hSw;(try dsimp only at hSw);go_simp;(try with_reducible rfl))
        try simp only[Act.put,List.setIfInBounds_toArray,List.set_cons_zero,List.set_cons_succ]
        refine tkm (i:=2) (oi:=sm2) (v:=?vb2) rfl (.inl ⟨by rfl,?yb2⟩) (by assumption) ?rb2
        case yb2=>(intro w hSw;(try dsimp only at hSw);go_simp;(try with_reducible rfl))
        try simp only[Act.put,List.setIfInBounds_toArray,List.set_cons_zero,List.set_cons_succ]
        refine tkm (i:=3) (oi:=sm3) (v:=?vb3) rfl (.inl ⟨by rfl,?yb3⟩) (by assumption) ?rb3
        case yb3=>(intro w hSw;(try dsimp only at hSw);go_simp;(try with_reducible rfl))
        try simp only[Act.put,List.setIfInBounds_toArray,List.set_cons_zero,List.set_cons_succ]
        refine tkm (i:=4) (oi:=sm4) (v:=?vb4) rfl (.inl ⟨by rfl,?yb4⟩) (by assumption) ?rb4
        case yb4=>(intro w hSw;(try dsimp only at hSw);go_simp;(try with_reducible rfl))
        try simp only[Act.put,List.setIfInBounds_toArray,List.set_cons_zero,List.set_cons_succ]
        refine tkm (i:=5) (oi:=sm5) (v:=?vb5) rfl (.inl ⟨by rfl,?yb5⟩) (by assumption) ?rb5
        case yb5=>(intro w hSw;(try dsimp only at hSw);go_simp;(try with_reducible rfl))
        try simp only[Act.put,List.setIfInBounds_toArray,List.set_cons_zero,List.set_cons_succ]
        refine tkm (i:=6) (oi:=sm6) (v:=?vb6) rfl (.inl ⟨by rfl,?yb6⟩) (by assumption) ?rb6
        case yb6=>(intro w hSw;(try dsimp only at hSw);go_simp;(try with_reducible rfl))
        try simp only[Act.put,List.setIfInBounds_toArray,List.set_cons_zero,List.set_cons_succ]
        refine tkm (i:=7) (oi:=sm7) (v:=?vb7) rfl (.inl ⟨by rfl,?yb7⟩) (by assumption) ?rb7
        case yb7=>(intro w hSw;(try dsimp only at hSw);go_simp;(try with_reducible rfl))
        try simp only[Act.put,List.setIfInBounds_toArray,List.set_cons_zero,List.set_cons_succ]
        refine tkm (i:=8) (oi:=sm8) (v:=?vb8) rfl (.inl ⟨by rfl,?yb8⟩) (by assumption) ?rb8
        case yb8=>(intro w hSw;(try dsimp only at hSw);go_simp;(try with_reducible rfl))
        try simp only[Act.put,List.setIfInBounds_toArray,List.set_cons_zero,List.set_cons_succ]
        refine tkm (i:=9) (oi:=sm9) (v:=?vb9) rfl (.inl ⟨by rfl,?yb9⟩) (by assumption) ?rb9
        case yb9=>(intro w hSw;(try dsimp only at hSw);go_simp;(try with_reducible rfl))
        try simp only[Act.put,List.setIfInBounds_toArray,List.set_cons_zero,List.set_cons_succ]
        refine tkm (i:=10) (oi:=sm10) (v:=?vb10) rfl (.inl ⟨by rfl,?yb10⟩) (by assumption) ?rb10
        case yb10=>(intro w hSw;(try dsimp only at hSw);go_simp;(try with_reducible rfl))
        try simp only[Act.put,List.setIfInBounds_toArray,List.set_cons_zero,List.set_cons_succ]
        refine tkm (i:=11) (oi:=sm11) (v:=?vb11) rfl (.inl ⟨by rfl,?yb11⟩) (by assumption) ?rb11
        case yb11=>(intro w hSw;(try dsimp only at hSw);go_simp;(try with_reducible rfl))
        try simp only[Act.put,List.setIfInBounds_toArray,List.set_cons_zero,List.set_cons_succ]
        refine tkm (i:=12) (oi:=sm12) (v:=?vb12) rfl (.inl ⟨by rfl,?yb12⟩) (by assumption) ?rb12
        case yb12=>(intro w hSw;(try dsimp only at hSw);go_simp;(try with_reducible rfl))
        try simp only[Act.put,List.setIfInBounds_toArray,List.set_cons_zero,List.set_cons_succ]
        refine wpAnyH_ready (rs:=[13]) (by kernel_rfl) (by simp) ?_
        refine AllReadyH.cons (o:=sm15) rfl (fun K hK=>?_) AllReadyH.nil
        go_simp
        go_at_call 35
        with_reducible refine KE.mono ?_
        rintro e w5 ⟨rfl,b5'⟩
        have b5:Below w4.heap.size w4 w5:=zcu b5'
        have S5:Hid (w5.cell? ⟨ga,j*2,none⟩=some (.string ⟨h.toArray⟩)∧w5.cell? ⟨ga,j*2+1,none⟩=some (.string ⟨t.toArray⟩)):=⟨(b5.cell (p:=⟨ga,j*2,none⟩) hga4).trans SX.out.1,(b5.cell (p:=⟨ga,j*2+1,none⟩) hga4).trans SX.out.2⟩
        have B5:=B4.trans (b5.mono s4)
        clear b5 b5'
        clear hHeld
        refine hK.out _ _ S5.out (fun hHeld=>?_)
        clear hK K
        try simp only[Act.put,List.setIfInBounds_toArray,List.set_cons_zero,List.set_cons_succ]
        refine tkm (i:=14) (oi:=sm13) (v:=?vb14) rfl (.inl ⟨by rfl,?yb14⟩) (by assumption) ?rb14
        case yb14=>(intro w hSw;(try dsimp only at hSw);go_simp;(try with_reducible rfl))
        try simp only[Act.put,List.setIfInBounds_toArray,List.set_cons_zero,List.set_cons_succ]
        refine tkm (i:=15) (oi:=sm14) (v:=?vb15) rfl (.inl ⟨by rfl,?yb15⟩) (by assumption) ?rb15
        case yb15=>(intro w hSw;(try dsimp only at hSw);go_simp;(try with_reducible rfl))
        try simp only[Act.put,List.setIfInBounds_toArray,List.set_cons_zero,List.set_cons_succ]
        refine wpAnyH_done (by kernel_rfl) ?_ _
        have BZ:=fun q=>zbu (q:=q) (B3.trans (B5.mono s3))
        have BZ0:=B3.trans (B5.mono s3)
        go_wp2
        go_ret3
        exact⟨none,0,0,rfl,by first | exact World.ownsRow_nil _ _ _ _ | exact⟨World.ownsRow_nil _ _ _ _,fun h=>by cases h⟩,by first | exact BZ0 | exact BZ _⟩
      · have HGN:Hid (∀ q,q<j+1→zdm all q=true):=fun q hq=>by
         by_cases hqj:q=j
         · rw[hqj,HAT.out];simp[hhe]
         · exact HG.out q (by omega)
        have hhb:(h == emptyL)=false:=by simp[hhe]
        obtain⟨em,hem⟩:∃ em,em=emptyL:=⟨_,rfl⟩
        rw[←hem] at KE hhb
        clear hem hhe HG HAT
        go_wp2_with fail
        refine wp_region_held_drew (S:=fun w'=>w'.cell? ⟨ga,j*2,none⟩=some (.string ⟨h.toArray⟩)∧w'.cell? ⟨ga,j*2+1,none⟩=some (.string ⟨t.toArray⟩)) (by kernel_rfl) SX.out (fun hHeld=>?_)
        refine tkm (i:=0) (oi:=sm0) (v:=?vc0) rfl (.inl ⟨by rfl,?yc0⟩) (by assumption) ?rc0
        case yc0=>(intro w hSw;(try dsimp only at hSw);go_simp;(try with_reducible rfl))
        try simp only[Act.put,List.setIfInBounds_toArray,List.set_cons_zero,List.set_cons_succ]
        refine tkm (i:=1) (oi:=sm1) (v:=?vc1) rfl (.inl ⟨by rfl,?yc1⟩) (by assumption) ?rc1
        case yc1=>(intro w hSw;(try dsimp only at hSw);go_simp;(try with_reducible rfl))
        try simp only[Act.put,List.setIfInBounds_toArray,List.set_cons_zero,List.set_cons_succ]
        refine tkm (i:=2) (oi:=sm2) (v:=?vc2) rfl (.inl ⟨by rfl,?yc2⟩) (by assumption) ?rc2
        case yc2=>(intro w hSw;(try dsimp only at hSw);go_simp;(try with_reducible rfl))
        try simp only[Act.put,List.setIfInBounds_toArray,List.set_cons_zero,List.set_cons_succ]
        refine tkm (i:=3) (oi:=sm3) (v:=?vc3) rfl (.inl ⟨by rfl,?yc3⟩) (by assumption) ?rc3
        case yc3=>(intro w hSw;(try dsimp only at hSw);go_simp;(try with_reducible rfl))
        try simp only[Act.put,List.setIfInBounds_toArray,List.set_cons_zero,List.set_cons_succ]
        refine tkm (i:=4) (oi:=sm4) (v:=?vc4) rfl (.inl ⟨by rfl,?yc4⟩) (by assumption) ?rc4
        case yc4=>(intro w hSw;(try dsimp only at hSw);go_simp;(try with_reducible rfl))
        try simp only[Act.put,List.setIfInBounds_toArray,List.set_cons_zero,List.set_cons_succ]
        refine tkm (i:=5) (oi:=sm5) (v:=?vc5) rfl (.inl ⟨by rfl,?yc5⟩) (by assumption) ?rc5
        case yc5=>(intro w hSw;(try dsimp only at hSw);go_simp;(try with_reducible rfl))
        try simp only[Act.put,List.setIfInBounds_toArray,List.set_cons_zero,List.set_cons_succ]
        refine tkm (i:=6) (oi:=sm6) (v:=?vc6) rfl (.inl ⟨by rfl,?yc6⟩) (by assumption) ?rc6
        case yc6=>(intro w hSw;(try dsimp only at hSw);go_simp;(try with_reducible rfl))
        try simp only[Act.put,List.setIfInBounds_toArray,List.set_cons_zero,List.set_cons_succ]
        refine tkm (i:=7) (oi:=sm7) (v:=?vc7) rfl (.inl ⟨by rfl,?yc7⟩) (by assumption) ?rc7
        case yc7=>(intro w hSw;(try dsimp only at hSw);go_simp;(try with_reducible rfl))
        try simp only[Act.put,List.setIfInBounds_toArray,List.set_cons_zero,List.set_cons_succ]
        refine tkm (i:=8) (oi:=sm8) (v:=?vc8) rfl (.inl ⟨by rfl,?yc8⟩) (by assumption) ?rc8
        case yc8=>(intro w hSw;(try dsimp only at hSw);go_simp;(try with_reducible rfl))
        try simp only[Act.put,List.setIfInBounds_toArray,List.set_cons_zero,List.set_cons_succ]
        refine tkm (i:=9) (oi:=sm9) (v:=?vc9) rfl (.inl ⟨by rfl,?yc9⟩) (by assumption) ?rc9
        case yc9=>(intro w hSw;(try dsimp only at hSw);go_simp;(try with_reducible rfl))
        try simp only[Act.put,List.setIfInBounds_toArray,List.set_cons_zero,List.set_cons_succ]
        refine tkm (i:=10) (oi:=sm10) (v:=?vc10) rfl (.inl ⟨by rfl,?yc10⟩) (by assumption) ?rc10
        case yc10=>(intro w hSw;(try dsimp only at hSw);go_simp;(try with_reducible rfl))
        try simp only[Act.put,List.setIfInBounds_toArray,List.set_cons_zero,List.set_cons_succ]
        refine tkm (i:=11) (oi:=sm11) (v:=?vc11) rfl (.inl ⟨by rfl,?yc11⟩) (by assumption) ?rc11
        case yc11=>(intro w hSw;(try dsimp only at hSw);go_simp;(try with_reducible rfl))
        try simp only[Act.put,List.setIfInBounds_toArray,List.set_cons_zero,List.set_cons_succ]
        refine tkm (i:=12) (oi:=sm12) (v:=?vc12) rfl (.inl ⟨by rfl,?yc12⟩) (by assumption) ?rc12
        case yc12=>(intro w hSw;(try dsimp only at hSw);go_simp;(try with_reducible rfl))
        try simp only[Act.put,List.setIfInBounds_toArray,List.set_cons_zero,List.set_cons_succ]
        refine wpAnyH_ready (rs:=[13]) (by kernel_rfl) (by simp) ?_
        refine AllReadyH.cons (o:=sm15) rfl (fun K hK=>?_) AllReadyH.nil
        go_simp
        go_at_call 35
        with_reducible refine KE.mono ?_
        rintro e w5 ⟨rfl,b5'⟩
        have b5:Below w4.heap.size w4 w5:=zcu b5'
        have S5:Hid (w5.cell? ⟨ga,j*2,none⟩=some (.string ⟨h.toArray⟩)∧w5.cell? ⟨ga,j*2+1,none⟩=some (.string ⟨t.toArray⟩)):=⟨(b5.cell (p:=⟨ga,j*2,none⟩) hga4).trans SX.out.1,(b5.cell (p:=⟨ga,j*2+1,none⟩) hga4).trans SX.out.2⟩
        have B5:=B4.trans (b5.mono s4)
        clear b5 b5'
        clear hHeld
        refine hK.out _ _ S5.out (fun hHeld=>?_)
        clear hK K
        try simp only[Act.put,List.setIfInBounds_toArray,List.set_cons_zero,List.set_cons_succ]
        refine tkm (i:=14) (oi:=sm13) (v:=?vc14) rfl (.inl ⟨by rfl,?yc14⟩) (by assumption) ?rc14
        case yc14=>(intro w hSw;(try dsimp only at hSw);go_simp;(try with_reducible rfl))
        try simp only[Act.put,List.setIfInBounds_toArray,List.set_cons_zero,List.set_cons_succ]
        refine tkm (i:=15) (oi:=sm14) (v:=?vc15) rfl (.inl ⟨by rfl,?yc15⟩) (by assumption) ?rc15
        case yc15=>(intro w hSw;(try dsimp only at hSw);go_simp;(try with_reducible rfl))
        try simp only[Act.put,List.setIfInBounds_toArray,List.set_cons_zero,List.set_cons_succ]
        refine wpAnyH_done (by kernel_rfl) ?_ _
        go_wp2
        go_roundw
        case rel=>exact⟨j+1,by omega,by go_num,by rw[HRT.out],HGN,by first | exact B5 | exact zbu B5⟩
        case measure=>simp[intOf];omega
    · obtain rfl:ok=false:=HD.out.2.1 j hlt (by rw[HAT.out];simp[hxt])
      have hxb:(x == t)=false:=by simp[hxt]
      clear HD HAT
      go_wp2_with fail
      refine wp_region_held_drew (S:=fun w'=>w'.cell? ⟨ga,j*2,none⟩=some (.string ⟨h.toArray⟩)∧w'.cell? ⟨ga,j*2+1,none⟩=some (.string ⟨t.toArray⟩)) (by kernel_rfl) SX.out (fun hHeld=>?_)
      refine tkm (i:=0) (oi:=sm0) (v:=?vd0) rfl (.inl ⟨by rfl,?yd0⟩) (by assumption) ?rd0
      case yd0=>(intro w hSw;(try dsimp only at hSw);go_simp;(try with_reducible rfl))
      try simp only[Act.put,List.setIfInBounds_toArray,List.set_cons_zero,List.set_cons_succ]
      refine tkm (i:=1) (oi:=sm1) (v:=?vd1) rfl (.inl ⟨by rfl,?yd1⟩) (by assumption) ?rd1
      case yd1=>(intro w hSw;(try dsimp only at hSw);go_simp;(try with_reducible rfl))
      try simp only[Act.put,List.setIfInBounds_toArray,List.set_cons_zero,List.set_cons_succ]
      refine tkm (i:=2) (oi:=sm2) (v:=?vd2) rfl (.inl ⟨by rfl,?yd2⟩) (by assumption) ?rd2
      case yd2=>(intro w hSw;(try dsimp only at hSw);go_simp;(try with_reducible rfl))
      try simp only[Act.put,List.setIfInBounds_toArray,List.set_cons_zero,List.set_cons_succ]
      refine tkm (i:=3) (oi:=sm3) (v:=?vd3) rfl (.inl ⟨by rfl,?yd3⟩) (by assumption) ?rd3
      case yd3=>(intro w hSw;(try dsimp only at hSw);go_simp;(try with_reducible rfl))
      try simp only[Act.put,List.setIfInBounds_toArray,List.set_cons_zero,List.set_cons_succ]
      refine tkm (i:=4) (oi:=sm4) (v:=?vd4) rfl (.inl ⟨by rfl,?yd4⟩) (by assumption) ?rd4
      case yd4=>(intro w hSw;(try dsimp only at hSw);go_simp;(try with_reducible rfl))
      try simp only[Act.put,List.setIfInBounds_toArray,List.set_cons_zero,List.set_cons_succ]
      refine tkm (i:=5) (oi:=sm5) (v:=?vd5) rfl (.inl ⟨by rfl,?yd5⟩) (by assumption) ?rd5
      case yd5=>(intro w hSw;(try dsimp only at hSw);go_simp;(try with_reducible rfl))
      try simp only[Act.put,List.setIfInBounds_toArray,List.set_cons_zero,List.set_cons_succ]
      refine tkm (i:=6) (oi:=sm6) (v:=?vd6) rfl (.inl ⟨by rfl,?yd6⟩) (by assumption) ?rd6
      case yd6=>(intro w hSw;(try dsimp only at hSw);go_simp;(try with_reducible rfl))
      try simp only[Act.put,List.setIfInBounds_toArray,List.set_cons_zero,List.set_cons_succ]
      refine tkm (i:=7) (oi:=sm7) (v:=?vd7) rfl (.inl ⟨by rfl,?yd7⟩) (by assumption) ?rd7
      case yd7=>(intro w hSw;(try dsimp only at hSw);go_simp;(try with_reducible rfl))
      try simp only[Act.put,List.setIfInBounds_toArray,List.set_cons_zero,List.set_cons_succ]
      refine tkm (i:=8) (oi:=sm8) (v:=undef) rfl (.inr ⟨by rfl,rfl⟩) (by assumption) ?_
      try simp only[Act.put,List.setIfInBounds_toArray,List.set_cons_zero,List.set_cons_succ]
      refine tkm (i:=9) (oi:=sm9) (v:=undef) rfl (.inr ⟨by rfl,rfl⟩) (by assumption) ?_
      try simp only[Act.put,List.setIfInBounds_toArray,List.set_cons_zero,List.set_cons_succ]
      refine tkm (i:=10) (oi:=sm10) (v:=undef) rfl (.inr ⟨by rfl,rfl⟩) (by assumption) ?_
      try simp only[Act.put,List.setIfInBounds_toArray,List.set_cons_zero,List.set_cons_succ]
      refine tkm (i:=11) (oi:=sm11) (v:=undef) rfl (.inr ⟨by rfl,rfl⟩) (by assumption) ?_
      try simp only[Act.put,List.setIfInBounds_toArray,List.set_cons_zero,List.set_cons_succ]
      refine tkm (i:=12) (oi:=sm12) (v:=undef) rfl (.inr ⟨by rfl,rfl⟩) (by assumption) ?_
      try simp only[Act.put,List.setIfInBounds_toArray,List.set_cons_zero,List.set_cons_succ]
      refine tkm (i:=13) (oi:=sm15) (v:=undef) rfl (.inr ⟨by rfl,rfl⟩) (by assumption) ?_
      try simp only[Act.put,List.setIfInBounds_toArray,List.set_cons_zero,List.set_cons_succ]
      refine tkm (i:=14) (oi:=sm13) (v:=undef) rfl (.inr ⟨by rfl,rfl⟩) (by assumption) ?_
      try simp only[Act.put,List.setIfInBounds_toArray,List.set_cons_zero,List.set_cons_succ]
      refine tkm (i:=15) (oi:=sm14) (v:=?vd15) rfl (.inl ⟨by rfl,?yd15⟩) (by assumption) ?rd15
      case yd15=>(intro w hSw;(try dsimp only at hSw);go_simp;(try with_reducible rfl))
      try simp only[Act.put,List.setIfInBounds_toArray,List.set_cons_zero,List.set_cons_succ]
      refine wpAnyH_done (by kernel_rfl) ?_ _
      have BZ:=fun q=>zbu (q:=q) (B3.trans (B4.mono s3))
      have BZ0:=B3.trans (B4.mono s3)
      have BZ1:Below w.heap.size w w4.drew:=⟨BZ0.os,BZ0.tape,BZ0.output,BZ0.size,BZ0.block⟩
      go_wp2
      go_ret3
      exact⟨none,0,0,rfl,by first | exact World.ownsRow_nil _ _ _ _ | exact⟨World.ownsRow_nil _ _ _ _,fun h=>by cases h⟩,by first | exact BZ0 | exact BZ1 | exact BZ _⟩
  · obtain rfl:j=all.length:=by omega
    have hj1:¬ (all.length:Int)<(all.length:Int):=by omega
    obtain rfl:ok=true:=HD.out.2.2.1 HG.out
    have OO:=zf (HOO.out _ hbel)
    have BZ:=B3.trans (hbel.mono s3)
    rw[List.take_length]
    clear HD HG HOA HOO
    go_wp2
    go_ret3
    exact⟨_,_,_,rfl,by first | exact⟨OO.out,fun _=>⟨_,rfl⟩⟩ | exact⟨OO.out,⟨_,rfl⟩⟩ | exact OO.out,BZ⟩
theorem za2y (a:Option Addr) (cp:Nat) (ps:List za) (w:World) (hl:ps.length≤1048576) (hm:∀ p∈ps,p.1.length≤1048576∧p.2.length≤1048576) (hs:IsPairs w a ps) :
 Calls Tryz.prog 34 #[.slice a ps.length cp] w fun e w'=>e=.returned (.tuple #[.string ⟨(zab ps).toArray⟩,.bool (zy ps)])∧Below w.heap.size w w':=by
 have K1:=zge a cp ps w hl hm hs
 cases hp:zq ps with
 | false =>
   have e1:zy ps=false:=by simp[zy,hp]
   have e2:zab ps=[]:=by simp[zab,e1]
   rw[hp] at K1
   rw[e1,e2]
   clear hs hm hp e1 e2
   go_enter Tryz.func34,Tryz.ntmps34
   go_wp2_with fail
   refine K1.mono ?_
   rintro e w1 ⟨rfl,b1⟩
   go_wp2
   go_ret2
   exact⟨rfl,b1⟩
 | true =>
   have e1:zy ps=zah (allL ps):=by simp[zy,hp]
   have e2:zab ps=if zah (allL ps) then zbt (allL ps) else []:=by simp[zab,e1]
   rw[hp] at K1
   have HK2:Hid (∀ W,Below w.heap.size w W→_):=fun W hW=>zjk a cp ps W (zcy ps hp) (hs.later hW)
   rw[e1,e2]
   obtain⟨r,hr⟩:∃ r,r=(if zah (allL ps) then zbt (allL ps) else []):=⟨_,rfl⟩
   obtain⟨ok,hok⟩:∃ ok,ok=zah (allL ps):=⟨_,rfl⟩
   rw[←hr] at HK2 ⊢
   rw[←hok] at HK2 ⊢
   clear hs hm hp e1 e2 hr hok
   go_enter Tryz.func34,Tryz.ntmps34
   go_wp2_with fail
   refine K1.mono ?_
   rintro e w1 ⟨rfl,b1⟩
   go_wp2_with fail
   refine (HK2.out w1 b1).mono ?_
   rintro e w2 ⟨a2,m2,c2,rfl,_,b2⟩
   have B2:=b1.trans (b2.mono b1.size)
   go_wp2
   go_ret2
   exact⟨rfl,B2⟩
end Go.Proofs.YtiadimhoolekbaaGreatDoor
