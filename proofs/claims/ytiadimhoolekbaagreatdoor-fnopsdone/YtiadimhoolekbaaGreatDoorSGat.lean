/-
 Contract: the pairs under a node, of the model.
-/
import Derived.Test.YtiadimhoolekbaaGreatDoorGatAll
namespace Go.Proofs.YtiadimhoolekbaaGreatDoor
open Go.RowKit
set_option linter.unusedVariables false
set_option maxHeartbeats 4000000
set_option maxRecDepth 100000
def zjh (w:World) (res:Option (List za)) (e:Ending) (w':World):Prop:=∃ (a:Option Addr) (m c:Nat),e=.returned (.tuple #[.slice a m c,.bool res.isSome])∧(res.isSome=true→∃ g,a=some ⟨g,0,none⟩)∧w'.ownsRow w.heap.size 61 2 (.slice a m c) (res.getD []).length (zc (res.getD []))∧Below w.heap.size w w'
theorem zdx {w w':World} {res:Option (List za)} (h:res=none) (hb:Below w.heap.size w w'):zjh w res (.returned (.tuple #[.slice none 0 0,.bool false])) w':=by
 subst h
 exact⟨none,0,0,rfl,fun h=>by simp at h,World.ownsRow_nil _ _ _ _,hb⟩
theorem zt8 (a b:List UInt8):(ByteArray.mk a.toArray ++ ByteArray.mk b.toArray)=ByteArray.mk (a ++ b).toArray:=by
 have h:(ByteArray.mk a.toArray ++ ByteArray.mk b.toArray).data=(ByteArray.mk (a ++ b).toArray).data:=by simp
 exact ByteArray.ext h
theorem za2u (ps : List za) (hl : ps.length ≤ 1048576) (hm : ∀ p ∈ ps, p.1.length ≤ 1048576 ∧ p.2.length ≤ 1048576) (hst : zu ps = true) :
 ∀ (f:Nat) (a:Option Addr) (cap:Nat) (h path:List UInt8) (w:World),26≤f+path.length→path.length≤48→zo path=true→IsPairs w a ps →
 Calls Tryz.prog 44 #[.slice a ps.length cap,.string ⟨h.toArray⟩,.string ⟨path.toArray⟩] w fun e w'=>zjh w (zb3 (atF (zh ps) f h path)) e w':=by
 intro f
 induction f with
 | zero =>
   intro a cap h path w hf hp hn hs
   have KF:=zj4 a cap ps h w hl hs
   have hp24:¬ (path.length:Int)≤24:=by omega
   have hpd:decide ((24:Int)<(path.length:Int))=true:=by simp;omega
   have hzp:(ByteArray.mk path.toArray).size=path.length:=by simp[ByteArray.size]
   have hres:zb3 (atF (zh ps) 0 h path)=none:=rfl
   have HR:Hid (zb3 (atF (zh ps) 0 h path)=none):=hres
   clear hres hs hm
   cases hfd:zh ps h with
   | none =>
     rw[hfd] at KF
     simp only[Option.getD_none,Option.isSome_none] at KF
     clear hfd
     go_enter Tryz.func44,Tryz.ntmps44
     go_wp2_with fail
     refine KF.mono ?_
     rintro e w1 ⟨rfl,b1⟩
     go_wp2
     go_ret2
     exact zdx HR.out b1
   | some t =>
     rw[hfd] at KF
     simp only[Option.getD_some,Option.isSome_some] at KF
     clear hfd
     go_enter Tryz.func44,Tryz.ntmps44
     go_wp2_with fail
     refine KF.mono ?_
     rintro e w1 ⟨rfl,b1⟩
     go_wp2
     go_ret2
     exact zdx HR.out b1
 | succ f ih =>
   intro a cap h path w hf hp hn hs
   have KF:=zj4 a cap ps h w hl hs
   have hzp:(ByteArray.mk path.toArray).size=path.length:=by simp[ByteArray.size]
   have HS:Hid (∀ W,Below w.heap.size w W→IsPairs W a ps):=fun W hW=>hs.later hW
   have HM:Hid (∀ p∈ps,p.1.length≤1048576∧p.2.length≤1048576):=hm
   have IH:Hid (∀ (h path:List UInt8) (W:World),26≤f+path.length→path.length≤48→zo path=true→Below w.heap.size w W→Calls Tryz.prog 44 #[.slice a ps.length cap,.string ⟨h.toArray⟩,.string ⟨path.toArray⟩] W fun e w'=>zjh W (zb3 (atF (zh ps) f h path)) e w'):=fun h path W h1 h2 h3 hW=>ih a cap h path W h1 h2 h3 (hs.later hW)
   clear hs hm ih
   cases hfd:zh ps h with
   | none =>
     have HR:Hid (zb3 (atF (zh ps) (f+1) h path)=none):=by rw[Hid,zi2 _ _ _ _ hfd];rfl
     rw[hfd] at KF
     simp only[Option.getD_none,Option.isSome_none] at KF
     clear hfd
     go_enter Tryz.func44,Tryz.ntmps44
     go_wp2_with fail
     refine KF.mono ?_
     rintro e w1 ⟨rfl,b1⟩
     go_wp2
     go_ret2
     exact zdx HR.out b1
   | some t =>
     have htl:=zw8 ps HM.out h t hfd
     obtain⟨_,_,_,_,htr⟩:=zi9 ps hst h t hfd
     have hok:=zkv t htr
     have HKR:Hid (∀ W,Calls Tryz.prog 77 #[.string ⟨t.toArray⟩] W fun e w'=>zdg W (za6 t) e w'):=fun W=>ztg t W htl
     rw[hfd] at KF
     simp only[Option.getD_some,Option.isSome_some] at KF
     by_cases hp24:path.length≤24
     · have hp1 : (path.length : Int) ≤ 24 := by omega
       obtain⟨nd,hnd⟩:∃ nd,nd=nodeAt t:=⟨_,rfl⟩
       obtain⟨k,q,ls,x⟩:=nd
       have HRS:Hid (∀ r,atF (zh ps) (f+1) h path=r→r=if zb2 (path ++ q) x=true then (za7 (atF (zh ps) f) k (path ++ q) ls ls.length).map (ownP (path ++ q) x ++ ·) else none):=fun r hr=>by rw[←hr,zfw _ _ _ _ _ k q x ls hfd hnd.symm]
       have HRP:Hid (∀ W W' e,zdg W (za6 t) e W'→∃ (a:Option Addr) (c:Nat),e=.returned (.tuple #[.agg #[.int .i64 k,.string ⟨q.toArray⟩,.slice a ls.length c,.string ⟨x.toArray⟩],.bool true])∧W'.ownsRow W.heap.size 9 1 (.slice a ls.length c) ls.length (zk ls)∧Below W.heap.size W W'):=fun W W' e hh=>by
        obtain⟨a9,c9,h1,h2,h3⟩:=zw9 hh
        rw[htr,←hnd] at h1
        rw[←hnd] at h2
        exact⟨a9,c9,h1,h2,h3⟩
       rw[←hnd] at hok
       have hparts:=zkw _ hok
       simp only at hparts
       obtain⟨hq24,hqn,hx60,hkind⟩:=hparts
       obtain⟨res,hres⟩:∃ res,res=zb3 (atF (zh ps) (f+1) h path):=⟨_,rfl⟩
       have HRES:Hid (res=zb3 (if zb2 (path ++ q) x=true then (za7 (atF (zh ps) f) k (path ++ q) ls ls.length).map (ownP (path ++ q) x ++ ·) else none)):=by rw[Hid,hres,HRS.out _ rfl]
       rw[←hres]
       obtain⟨full,hfull⟩:∃ full,full=path ++ q:=⟨_,rfl⟩
       have hcat:(ByteArray.mk path.toArray ++ ByteArray.mk q.toArray)=ByteArray.mk full.toArray:=by rw[hfull];exact zt8 path q
       have HFL:Hid (full.length=path.length+q.length):=by rw[Hid,hfull,List.length_append]
       have HFU:Hid (full=path ++ q):=hfull
       have hzf:(ByteArray.mk full.toArray).size=full.length:=by simp[ByteArray.size]
       rw[←hfull] at HRES
       have HFN:Hid (zo full=true):=by rw[Hid,hfull,zfz,hn,hqn];rfl
       clear hres HRS hfd hok htr hnd hfull hn hqn
       go_enter Tryz.func44,Tryz.ntmps44
       go_wp2_with fail
       refine KF.mono ?_
       rintro e w1 ⟨rfl,b1⟩
       go_wp2_with fail
       refine (HKR.out w1).mono ?_
       rintro e w2 h2
       obtain⟨a2,c2,rfl,o2,b2⟩:=HRP.out _ _ _ h2
       have hs12:=Nat.le_trans b1.size b2.size
       have BN:Hid (Below w.heap.size w (w2.alloc (.cells #[.int .i64 k,.string ⟨q.toArray⟩,.slice a2 ls.length c2,.string ⟨x.toArray⟩] 93))):=(b1.trans (b2.mono b1.size)).alloc hs12 _
       have QN:Hid ((w2.alloc (.cells #[.int .i64 k,.string ⟨q.toArray⟩,.slice a2 ls.length c2,.string ⟨x.toArray⟩] 93)).heap[w2.heap.size]? = some (.cells #[.int .i64 k,.string ⟨q.toArray⟩,.slice a2 ls.length c2,.string ⟨x.toArray⟩] 93 (0,0))):=heap_alloc_new w2 _
       have IN:Hid (zw (w2.alloc (.cells #[.int .i64 k,.string ⟨q.toArray⟩,.slice a2 ls.length c2,.string ⟨x.toArray⟩] 93)) a2 ls):=(zch (o2.alloc _)).2.2
       have hszN:(w2.alloc (.cells #[.int .i64 k,.string ⟨q.toArray⟩,.slice a2 ls.length c2,.string ⟨x.toArray⟩] 93)).heap.size=w2.heap.size+1:=by simp
       have BL:Hid (Below (w2.heap.size+1) (w2.alloc (.cells #[.int .i64 k,.string ⟨q.toArray⟩,.slice a2 ls.length c2,.string ⟨x.toArray⟩] 93)) ((w2.alloc (.cells #[.int .i64 k,.string ⟨q.toArray⟩,.slice a2 ls.length c2,.string ⟨x.toArray⟩] 93)).alloc (.cells #[] 61))):=by rw[Hid,←hszN];exact (Below.refl _ _).alloc (Nat.le_refl _) _
       have OL:Hid (((w2.alloc (.cells #[.int .i64 k,.string ⟨q.toArray⟩,.slice a2 ls.length c2,.string ⟨x.toArray⟩] 93)).alloc (.cells #[] 61)).ownsRow (w2.heap.size+1) 61 2 (.slice (some ⟨w2.heap.size+1,0,none⟩) 0 0) 0 []):=by
        have:=World.ownsRow_lit (e:=61) (size:=2) (w2.alloc (.cells #[.int .i64 k,.string ⟨q.toArray⟩,.slice a2 ls.length c2,.string ⟨x.toArray⟩] 93)) #[] 0 (base:=w2.heap.size+1) (by rw[hszN];exact Nat.le_refl _) (Nat.zero_le _) rfl
        rw[hszN] at this
        exact this
       have QL:((w2.alloc (.cells #[.int .i64 k,.string ⟨q.toArray⟩,.slice a2 ls.length c2,.string ⟨x.toArray⟩] 93)).alloc (.cells #[] 61)).heap[w2.heap.size]? = some (.cells #[.int .i64 k,.string ⟨q.toArray⟩,.slice a2 ls.length c2,.string ⟨x.toArray⟩] 93 (0,0)):=(Below.heap_alloc _ _ _ (by simp)).trans QN.out
       obtain⟨m0,m1,m2,m3,_⟩:=zm QL
       have HNF:Hid (x=[]→zb2 full x=false→za7 (atF (zh ps) f) k full ls ls.length=none):=fun hx hfo=>by
        have hbig:24<full.length:=by
         rw[hx] at hfo
         simp[zb2] at hfo
         omega
        rcases hkind with ⟨_,_,h3⟩ | ⟨_,_,_,y,rfl,hy⟩ | ⟨_,h2,_,_⟩
        · exact absurd hx h3
        · exact zwc _ _ _ _ _ hy hbig
        · have hfl:=HFL.out;rw[h2] at hfl;simp at hfl;omega
       clear QL o2 b1 b2 h2 KF HKR HRP
       go_upto_if 41 with fail
       go_cut [12] from 20 (fun v12 wx=>∃ (g3 c3:Nat),v12=.slice (some ⟨g3,0,none⟩) (ownP full x).length c3∧Hid (wx.ownsRow (w2.heap.size+1) 61 2 (.slice (some ⟨g3,0,none⟩) (ownP full x).length c3) (ownP full x).length (zc (ownP full x)))∧Hid (Below (w2.heap.size+1) (w2.alloc (.cells #[.int .i64 k,.string ⟨q.toArray⟩,.slice a2 ls.length c2,.string ⟨x.toArray⟩] 93)) wx)∧Hid (res=zb3 ((za7 (atF (zh ps) f) k full ls ls.length).map (ownP full x ++ ·))))
       case first =>
        by_cases hx:x=[]
        · subst hx
          have HZ:Hid (res=zb3 ((za7 (atF (zh ps) f) k full ls ls.length).map (ownP full [] ++ ·))):=by
           rw[Hid,HRES.out]
           by_cases hfo:zb2 full []=true
           · rw[if_pos hfo]
           · rw[if_neg hfo,HNF.out rfl (by simpa using hfo)];rfl
          clear HRES HNF
          go_wp2_with fail
          go_meet
          case rel=>exact⟨_,_,rfl,OL.out,BL.out,HZ.out⟩
        · have hxe : x.isEmpty = false := by cases x with | nil => exact absurd rfl hx | cons _ _ => rfl
          have hxn:(!x.isEmpty)=true:=by rw[hxe];rfl
          by_cases hpar:full.length % 2=0
          · by_cases hf24:full.length≤24
            · have HON:Hid (ownP full x=[(pack full,x)]):=if_neg hx
              have HZ:Hid (res=zb3 ((za7 (atF (zh ps) f) k full ls ls.length).map (ownP full x ++ ·))):=by
               rw[Hid,HRES.out,if_pos]
               simp[zb2,hf24,hpar]
              obtain⟨i0,hi0,hz0,hz1,hz2⟩:=info_parts info5
              obtain⟨j0,hj0,hy0,hy1,hy2⟩:=info_parts zey
              obtain⟨key,hkey⟩:∃ key,key=pack full:=⟨_,rfl⟩
              rw[←hkey] at HON
              obtain⟨n,hn2⟩:∃ n,n=full.length / 2:=⟨_,rfl⟩
              obtain⟨t8,ht8⟩:∃ t8,t8=ByteArray.mk full.toArray:=⟨_,rfl⟩
              have hts:t8.size=full.length:=by rw[ht8];exact hzf
              have HTN:Hid (zo t8.data.toList=true):=by rw[Hid,ht8];exact HFN.out
              have HTK:Hid (pack (t8.data.toList.take (2*n))=key):=by rw[Hid,ht8,hkey,List.take_of_length_le (by simp;omega)]
              rw[←ht8] at hcat
              have hn3:t8.size≤2*n:=by omega
              have hn4:2*n≤t8.size:=by omega
              have ht24:(t8.size:Int)≤24:=by omega
              have htp:¬ (t8.size:Int) % 2=1:=by omega
              have htb:((t8.size:Int) % 2 == 1)=false:=by simp;omega
              have htd:decide ((24:Int)<(t8.size:Int))=false:=by simp;omega
              clear HRES HNF hkey ht8 hzf hn2 hpar hf24 hts
              go_wp2
              all_goals first | (exfalso;rename_i h9;rw[hxe] at h9;exact absurd h9 (by decide)) | skip
              simp only[hxn]
              go_loopw [14,15] (fun v i wr=>∃ m kk g cap:Nat,Hid (m=2*kk)∧kk≤n∧i=.int .i64 (m:Int)∧v=.slice (some ⟨g,0,none⟩) kk cap∧wr.ownsRow (w2.heap.size+2) 5 1 (.slice (some ⟨g,0,none⟩) kk cap) kk (zg (pack (t8.data.toList.take (2*kk))))∧Below (w2.heap.size+2) ((w2.alloc (.cells #[.int .i64 k,.string ⟨q.toArray⟩,.slice a2 ls.length c2,.string ⟨x.toArray⟩] 93)).alloc (.cells #[] 61)) wr) (fun _ i _=>t8.size - (intOf i).toNat)
              case atStart =>
               have hszL:((w2.alloc (.cells #[.int .i64 k,.string ⟨q.toArray⟩,.slice a2 ls.length c2,.string ⟨x.toArray⟩] 93)).alloc (.cells #[] 61)).heap.size=w2.heap.size+2:=by simp
               refine⟨0,0,w2.heap.size+2,0,rfl,Nat.zero_le _,rfl,rfl,?_,?_⟩
               · have:=World.ownsRow_lit (e:=5) (size:=1) ((w2.alloc (.cells #[.int .i64 k,.string ⟨q.toArray⟩,.slice a2 ls.length c2,.string ⟨x.toArray⟩] 93)).alloc (.cells #[] 61)) #[] 0 (base:=w2.heap.size+2) (by rw[hszL];exact Nat.le_refl _) (Nat.zero_le _) rfl
                 rw[hszL] at this
                 exact this
               · have:=(Below.refl ((w2.alloc (.cells #[.int .i64 k,.string ⟨q.toArray⟩,.slice a2 ls.length c2,.string ⟨x.toArray⟩] 93)).alloc (.cells #[] 61)).heap.size ((w2.alloc (.cells #[.int .i64 k,.string ⟨q.toArray⟩,.slice a2 ls.length c2,.string ⟨x.toArray⟩] 93)).alloc (.cells #[] 61))).alloc (Nat.le_refl _) (.cells #[] 5)
                 rw[hszL] at this
                 exact this
              case round =>
               obtain⟨m,k8,g,cap,HM,hk8,rfl,rfl,hown,hbel⟩:=hrel
               have hsz:w2.heap.size+2≤wr.heap.size:=by have:=hbel.size;simp at this;omega
               have hbg:=own_base hown
               have hm1:m≤2*k8:=Nat.le_of_eq HM.out
               have hm2:2*k8≤m:=Nat.le_of_eq HM.out.symm
               have hk0:(0:Int)≤(m:Int):=by omega
               have hk2:(0:Int)≤(m:Int)+1:=by omega
               clear m0 m1 m2 m3
               by_cases hlt:k8<n
               · have hk1:(m:Int)<(t8.size:Int):=by omega
                 have hk3:(m:Int)+1<(t8.size:Int):=by omega
                 have hmn:m<t8.size:=by omega
                 have hmn1:m+1<t8.size:=by omega
                 have hwr:IntKind.i64.wrap ((m:Int)+1)=(m:Int)+1:=zar _ (by omega) (by omega)
                 go_wp2_with fail
                 go_region_held3 (fun _=>True) (trivial)
                  ((refine step_append_lies _ (by rfl) _ _ _ (by rfl) (w2.heap.size+2) 5 i0 _ 1 1 Tryz.underlying22 hi0 hz0 hz1 hz2 rfl (by omega) (.slice (some ⟨g,0,none⟩) k8 cap) k8 _ (by rfl) ((hown.alloc _).drew) ⟨wr.heap.size,0,none⟩ 1 1 [.int .u8 (IntKind.u8.wrap (IntKind.u8.wrap (16*(t8[m].toNat:Int))+(t8[m+1].toNat:Int)))] (by rfl) (by rfl) (World.news_of_block (cs:=#[.int .u8 (IntKind.u8.wrap (IntKind.u8.wrap (16*(t8[m].toNat:Int))+(t8[m+1].toNat:Int)))]) (t:=5) (fr:=(0,0)) (heap_alloc_new wr _)) (by simp[Value.oneCell']) (by omega) (by unfold maxLen;omega) (by omega) (by simp;omega) (wr.heap.size+1) (by simp) ?_;intro g9 cap9 w9 hown9 hgrow hat hlt1))
                 all_goals
                  have hbel9:Below (w2.heap.size+2) ((w2.alloc (.cells #[.int .i64 k,.string ⟨q.toArray⟩,.slice a2 ls.length c2,.string ⟨x.toArray⟩] 93)).alloc (.cells #[] 61)) w9:=zff hbel hsz hbg hgrow
                  go_wp2
                  go_roundw
                  case rel=>exact⟨m+2,k8+1,g9,cap9,by rw[Hid,HM.out];omega,by omega,by go_num,rfl,by rw[zqt t8 m k8 HM.out hmn1,zga,←zlm];exact hown9,hbel9⟩
                  case measure=>simp[intOf];omega
               · obtain rfl:k8=n:=by omega
                 rw[HTK.out] at hown
                 have hcv:=zd8 (P:=Tryz.prog) Tryz.underlying22 Tryz.underlying5 Tryz.underlying9 hown
                 have hkn:¬ (m:Int)<(t8.size:Int):=by omega
                 have hszL:((w2.alloc (.cells #[.int .i64 k,.string ⟨q.toArray⟩,.slice a2 ls.length c2,.string ⟨x.toArray⟩] 93)).alloc (.cells #[] 61)).heap.size=w2.heap.size+2:=by simp
                 have hbelL:Below ((w2.alloc (.cells #[.int .i64 k,.string ⟨q.toArray⟩,.slice a2 ls.length c2,.string ⟨x.toArray⟩] 93)).alloc (.cells #[] 61)).heap.size ((w2.alloc (.cells #[.int .i64 k,.string ⟨q.toArray⟩,.slice a2 ls.length c2,.string ⟨x.toArray⟩] 93)).alloc (.cells #[] 61)) wr:=by rw[hszL];exact hbel
                 have OW:Hid (wr.ownsRow (w2.heap.size+1) 61 2 (.slice (some ⟨w2.heap.size+1,0,none⟩) 0 0) 0 []):=zb4 OL.out hbelL
                 have QW:wr.heap[w2.heap.size]? = some (.cells #[.int .i64 k,.string ⟨q.toArray⟩,.slice a2 ls.length c2,.string ⟨x.toArray⟩] 93 (0,0)):=(hbel.block _ (by omega)).trans ((Below.heap_alloc _ _ _ (by simp)).trans QN.out)
                 obtain⟨p0,p1,p2,p3,_⟩:=zm QW
                 have BW:Hid (Below (w2.heap.size+1) (w2.alloc (.cells #[.int .i64 k,.string ⟨q.toArray⟩,.slice a2 ls.length c2,.string ⟨x.toArray⟩] 93)) (wr.alloc (.cells #[.string ⟨key.toArray⟩,.string ⟨x.toArray⟩] 61))):=(BL.out.trans (hbel.mono (by omega))).alloc (by omega) _
                 clear hown QW hbelL
                 go_wp2_with (at_builtin;refine wpList_append_lies _ rfl _ _ 32 rfl (w2.heap.size+1) 61 j0 (.agg #[.string ⟨#[]⟩,.string ⟨#[]⟩]) 2 32 Tryz.underlying32 hj0 hy0 hy1 hy2 rfl (by decide) (.slice (some ⟨w2.heap.size+1,0,none⟩) 0 0) 0 _ rfl (OW.out.alloc _) ⟨wr.heap.size,0,none⟩ 1 1 [.string ⟨key.toArray⟩,.string ⟨x.toArray⟩] rfl rfl (World.news_of_block (cs:=#[.string ⟨key.toArray⟩,.string ⟨x.toArray⟩]) (t:=61) (fr:=(0,0)) (heap_alloc_new wr _)) (by simp[Value.oneCell']) (by omega) (by unfold maxLen;omega) (by omega) (by simp;omega) (wr.heap.size+1) (by simp) ?_)
                 intro g5 cap5 w5 hown5 hgrow5 hat5 hlt5
                 have B5:Hid (Below (w2.heap.size+1) (w2.alloc (.cells #[.int .i64 k,.string ⟨q.toArray⟩,.slice a2 ls.length c2,.string ⟨x.toArray⟩] 93)) w5):=BW.out.grown hgrow5 (by simp;omega) (by simp[Value.ownBlock])
                 go_wp2
                 go_meet
                 case rel=>exact⟨g5,cap5,by rw[HON.out];rfl,by rw[HON.out];exact hown5,B5,HZ⟩
            · have HN:Hid (res=none):=by
               rw[Hid,HRES.out,if_neg]
               · rfl
               · simp[zb2,hf24]
              have htb:((full.length:Int) % 2 == 1)=false:=by simp;omega
              have htp:¬ (full.length:Int) % 2=1:=by omega
              have hti:¬ (full.length:Int)≤24:=by omega
              have htd:decide ((24:Int)<(full.length:Int))=true:=by simp;omega
              have BX:=BN.out.trans (BL.out.mono (by omega))
              clear HRES HNF
              go_wp2
              all_goals first | (exfalso;rename_i h9;rw[hxe] at h9;exact absurd h9 (by decide)) | skip
              go_ret2
              exact zdx HN.out BX
          · have HN:Hid (res=none):=by
             rw[Hid,HRES.out,if_neg]
             · rfl
             · simp[zb2,hpar,hx]
            have htb:((full.length:Int) % 2 == 1)=true:=by simp;omega
            have htp:(full.length:Int) % 2=1:=by omega
            have BX:=BN.out.trans (BL.out.mono (by omega))
            clear HRES HNF
            go_wp2
            all_goals first | (exfalso;rename_i h9;rw[hxe] at h9;exact absurd h9 (by decide)) | skip
            go_ret2
            exact zdx HN.out BX
       case rest =>
        obtain⟨g3,c3,rfl,HO,HB,HZ⟩:=hcut
        obtain⟨own,hown⟩:∃ own,own=ownP full x:=⟨_,rfl⟩
        have hol:own.length≤1:=by rw[hown];exact zwe full x
        rw[←hown] at HO HZ ⊢
        obtain⟨j0,hj0,hy0,hy1,hy2⟩:=info_parts zey
        have hl16:ls.length≤16:=by
         rcases hkind with ⟨_,h2,_⟩ | ⟨_,_,_,y,h4,_⟩ | ⟨_,_,h3,_⟩
         · rw[h2];simp
         · rw[h4];simp
         · omega
        clear hown HRES HNF BL OL m0 m1 m2 m3
        go_wp2
        go_loopw [12,16,17,18,19] (fun v12 v16 _ _ _ wr=>∃ (j:Nat) (l:List za) (g c n:Nat),j≤ls.length∧v16=.int .i64 (j:Int)∧v12=.slice (some ⟨g,0,none⟩) n c∧Hid (n=own.length+l.length)∧n≤60∧Hid (za7 (atF (zh ps) f) k full ls j=some l)∧Hid (wr.ownsRow (w2.heap.size+1) 61 2 (.slice (some ⟨g,0,none⟩) n c) n (zc (own ++ l)))∧Hid (Below (w2.heap.size+1) (w2.alloc (.cells #[.int .i64 k,.string ⟨q.toArray⟩,.slice a2 ls.length c2,.string ⟨x.toArray⟩] 93)) wr)) (fun _ v16 _ _ _ _=>ls.length - (intOf v16).toNat)
        case atStart=>exact⟨0,[],g3,c3,own.length,Nat.zero_le _,rfl,rfl,rfl,by omega,rfl,by rw[List.append_nil];exact HO,HB⟩
        case round =>
         obtain⟨j,l,g,c,n,hj,rfl,rfl,HN,hn60,HT,HOW,HBW⟩:=hrel
         have HSZ:Hid (w2.heap.size+1≤wr.heap.size):=by have:=HBW.out.size;rw[Hid];simp at this;omega
         have QW:wr.heap[w2.heap.size]? = some (.cells #[.int .i64 k,.string ⟨q.toArray⟩,.slice a2 ls.length c2,.string ⟨x.toArray⟩] 93 (0,0)):=(HBW.out.block _ (by omega)).trans QN.out
         obtain⟨p0,p1,p2,p3,_⟩:=zm QW
         clear QW
         by_cases hlt:j<ls.length
         · have hji : (j : Int) < (ls.length : Int) := by omega
           have hji0:(0:Int)≤(j:Int):=by omega
           obtain⟨b2,off2,ha2,hcell⟩:=zg2 IN.out j hlt
           subst ha2
           have d1:=(HBW.out.cell (p:=⟨b2,off2+j,none⟩) (by have:=World.block_lt_of_cell? _ _ (hcell j hlt);simpa using this)).trans (hcell j hlt)
           obtain⟨kid,hkid⟩:∃ kid,kid=ls.getD j []:=⟨_,rfl⟩
           rw[←hkid] at d1
           clear hcell
           by_cases hke:kid=[]
           · have HT1:Hid (za7 (atF (zh ps) f) k full ls (j+1)=some l):=zkm HT.out (by rw[←hkid];exact hke)
             subst hke
             clear hkid HT HZ IH
             go_wp2
             go_roundw
             case rel=>exact⟨j+1,l,g,c,n,by omega,by go_num,rfl,HN,hn60,HT1,HOW,HBW⟩
             case measure=>simp[intOf];omega
           · have hke' : ls.getD j [] ≠ [] := by rw [← hkid]; exact hke
             have hkn:kid.isEmpty=false:=by cases kid with | nil=>exact absurd rfl hke | cons _ _=>rfl
             rcases hkind with ⟨_,h2,_⟩ | ⟨rfl,h2,_,_⟩ | ⟨rfl,rfl,_,_⟩
             · rw[h2] at hlt;simp at hlt
             · have hq1:q.length≠0:=fun e=>h2 (List.length_eq_zero_iff.1 e)
               have hfl:=HFL.out
               have hst:zc9 2 full j=full:=rfl
               obtain⟨r5,hr5⟩:∃ r5,r5=zb3 (atF (zh ps) f kid full):=⟨_,rfl⟩
               have HLO:Hid ((r5=none∨∃ l5,r5=some l5∧¬ n+l5.length≤60)→res=none):=fun hl=>by
                rw[HZ.out]
                refine lost_cap.1 (zkn HT.out hlt hke' ?_)
                rw[←hkid,hst]
                rcases hl with h | ⟨l5,h,hb⟩
                · exact zos (lost_cap.2 (hr5.symm.trans h)) (by omega)
                · rw[hr5] at h
                  exact .inr ⟨l5,(ze2 h).1,by have:=HN.out;omega⟩
               have HSO:Hid (∀ l5,r5=some l5→za7 (atF (zh ps) f) 2 full ls (j+1)=some (l ++ l5)):=fun l5 h5=>by
                rw[hr5] at h5
                rw[zfc HT.out hke',←hkid,hst,(ze2 h5).1];rfl
               have HL5:Hid (∀ l5,r5=some l5→l5.length≤60):=fun l5 h5=>by
                rw[hr5] at h5
                exact (ze2 h5).2
               have KI:=IH.out kid full wr (by omega) (by omega) HFN.out (BN.out.trans (HBW.out.mono (by omega)))
               rw[←hr5] at KI
               have BWX:Hid (Below (w2.heap.size+1) (w2.alloc (.cells #[.int .i64 2,.string ⟨q.toArray⟩,.slice (some ⟨b2,off2,none⟩) ls.length c2,.string ⟨x.toArray⟩] 93)) wr):=HBW
               have HSW:Hid (w2.heap.size+1≤wr.heap.size):=HSZ
               clear hkid hke hke' hr5 hst hfl hq1 h2 HT HZ IH
               go_wp2_with fail
               refine KI.mono ?_
               rintro e w5 ⟨a5,m5,c5,rfl,hg5,o5,b5⟩
               have B5:Hid (Below (w2.heap.size+1) (w2.alloc (.cells #[.int .i64 2,.string ⟨q.toArray⟩,.slice (some ⟨b2,off2,none⟩) ls.length c2,.string ⟨x.toArray⟩] 93)) w5):=BWX.out.trans (b5.mono HSW.out)
               have BF:Hid (Below w.heap.size w w5):=BN.out.trans (B5.out.mono (by omega))
               clear KI
               cases r5 with
               | none =>
                 have HNO:Hid (res=none):=HLO.out (.inl rfl)
                 clear o5 b5 HLO HSO hg5
                 go_wp2
                 go_ret2
                 exact zdx HNO.out BF.out
               | some l5 =>
                 obtain⟨g5,rfl⟩:=hg5 rfl
                 simp only[Option.getD_some,Option.isSome_some] at o5 ⊢
                 obtain⟨rfl,_,i5⟩:=za8 o5
                 have H60:l5.length≤60:=HL5.out l5 rfl
                 by_cases hsum:n+l5.length≤60
                 · have hsi:(n:Int)+(l5.length:Int)≤60:=by omega
                   have hsd:decide ((60:Int)<(n:Int)+(l5.length:Int))=false:=by simp;omega
                   have OW5:Hid (w5.ownsRow (w2.heap.size+1) 61 2 (.slice (some ⟨g,0,none⟩) n c) n (zc (own ++ l))):=zb4 HOW.out b5
                   have HT5:Hid (za7 (atF (zh ps) f) 2 full ls (j+1)=some (l ++ l5)):=HSO.out l5 rfl
                   have NEW5:Hid (∀ j u,(zc l5)[j]? = some u→w5.cell? ((⟨g5,0,none⟩:Addr).add j)=some u):=zmo rfl o5
                   have S5:Hid (w2.heap.size+1≤w5.heap.size):=by have:=HSW.out;have:=b5.size;rw[Hid];omega
                   have hwl:IntKind.i64.wrap ((n:Int)+(l5.length:Int))=(n:Int)+(l5.length:Int):=zar _ (by omega) (by omega)
                   clear o5 b5 HLO HSO i5 hg5
                   go_wp2_with (at_builtin;refine wpList_append_own _ rfl _ _ 32 rfl (w2.heap.size+1) 61 j0 (.agg #[.string ⟨#[]⟩,.string ⟨#[]⟩]) 2 32 Tryz.underlying32 hj0 hy0 hy1 hy2 rfl (by decide) (.slice (some ⟨g,0,none⟩) n c) n _ rfl OW5.out ⟨g5,0,none⟩ l5.length c5 (zc l5) rfl (zay l5) NEW5.out (pone l5) (by unfold maxLen;omega) (by omega) S5.out ?_)
                   intro v6 w6 hown6 hgrow6 hnil6
                   obtain⟨g6,c6,rfl⟩:=zip hown6 (by first | exact hnil6 | exact fun h=>by have:=hnil6.1 h;simp at this)
                   have HB6:Hid (Below (w2.heap.size+1) (w2.alloc (.cells #[.int .i64 2,.string ⟨q.toArray⟩,.slice (some ⟨b2,off2,none⟩) ls.length c2,.string ⟨x.toArray⟩] 93)) w6):=B5.out.grown hgrow6 S5.out (fun q hq=>by have:=OW5.out.lt q hq;omega)
                   have HO6:Hid (w6.ownsRow (w2.heap.size+1) 61 2 (.slice (some ⟨g6,0,none⟩) (n+l5.length) c6) (n+l5.length) (zc (own ++ (l ++ l5)))):=by rw[Hid,←List.append_assoc,zai];exact hown6
                   clear hown6 hgrow6 hnil6 NEW5
                   go_wp2
                   go_roundw
                   case rel=>exact⟨j+1,l ++ l5,g6,c6,n+l5.length,by omega,by go_num,rfl,by rw[Hid,HN.out,List.length_append];omega,hsum,HT5,HO6,HB6⟩
                   case measure=>simp[intOf];omega
                 · have hsi:¬ (n:Int)+(l5.length:Int)≤60:=by omega
                   have hsd:decide ((60:Int)<(n:Int)+(l5.length:Int))=true:=by simp;omega
                   have hwl:IntKind.i64.wrap ((n:Int)+(l5.length:Int))=(n:Int)+(l5.length:Int):=zar _ (by omega) (by omega)
                   have HNO:Hid (res=none):=HLO.out (.inr ⟨l5,rfl,hsum⟩)
                   clear o5 b5 HLO HSO hg5 i5
                   go_wp2
                   go_ret2
                   exact zdx HNO.out BF.out
             · have hfl:full.length=path.length:=by have:=HFL.out;simpa using this
               have hfu:=HFU.out
               rw[List.append_nil] at hfu
               obtain⟨y,hy⟩:∃ y,y=UInt8.ofNat j:=⟨_,rfl⟩
               have hy15:y.toNat=j:=by rw[hy,UInt8.toNat_ofNat'];omega
               have hjb:(j:Int)<256:=by omega
               obtain⟨more,hmore⟩:∃ more,more=full ++ [y]:=⟨_,rfl⟩
               have hst:zc9 3 full j=more:=by rw[hmore,hy];rfl
               have hml:more.length=full.length+1:=by rw[hmore];simp
               have HMN:Hid (zo more=true):=by
                rw[Hid,hmore,zfz,HFN.out]
                simp only[zo,List.all_cons,List.all_nil,Bool.and_true,Bool.true_and,decide_eq_true_eq]
                omega
               have hcv:=zdi [y] #[.int .u8 (j:Int)] (by simp only[zg,List.map_cons,List.map_nil];rw[hy15]) 1 rfl (by decide)
               have hcat3:(ByteArray.mk path.toArray ++ ByteArray.mk [y].toArray)=ByteArray.mk more.toArray:=by rw[hmore,hfu];exact zt8 path [y]
               obtain⟨r5,hr5⟩:∃ r5,r5=zb3 (atF (zh ps) f kid more):=⟨_,rfl⟩
               have HLO:Hid ((r5=none∨∃ l5,r5=some l5∧¬ n+l5.length≤60)→res=none):=fun hl=>by
                rw[HZ.out]
                refine lost_cap.1 (zkn HT.out hlt hke' ?_)
                rw[←hkid,hst]
                rcases hl with h | ⟨l5,h,hb⟩
                · exact zos (lost_cap.2 (hr5.symm.trans h)) (by omega)
                · rw[hr5] at h
                  exact .inr ⟨l5,(ze2 h).1,by have:=HN.out;omega⟩
               have HSO:Hid (∀ l5,r5=some l5→za7 (atF (zh ps) f) 3 full ls (j+1)=some (l ++ l5)):=fun l5 h5=>by
                rw[hr5] at h5
                rw[zfc HT.out hke',←hkid,hst,(ze2 h5).1];rfl
               have HL5:Hid (∀ l5,r5=some l5→l5.length≤60):=fun l5 h5=>by
                rw[hr5] at h5
                exact (ze2 h5).2
               have BWX:Hid (Below (w2.heap.size+1) (w2.alloc (.cells #[.int .i64 3,.string ⟨([]:List UInt8).toArray⟩,.slice (some ⟨b2,off2,none⟩) ls.length c2,.string ⟨x.toArray⟩] 93)) (wr.alloc (.cells #[.int .u8 (j:Int)] 5))):=HBW.out.alloc HSZ.out _
               have HSW:Hid (w2.heap.size+1≤(wr.alloc (.cells #[.int .u8 (j:Int)] 5)).heap.size):=by have:=HSZ.out;rw[Hid];simp;omega
               have KI:=IH.out kid more (wr.alloc (.cells #[.int .u8 (j:Int)] 5)) (by omega) (by omega) HMN.out (BN.out.trans (BWX.out.mono (by omega)))
               rw[←hr5] at KI
               have pk:=zm ((Below.heap_alloc wr (.cells #[.int .u8 (j:Int)] 5) _ (by have:=HSZ.out;omega)).trans ((HBW.out.block w2.heap.size (by omega)).trans QN.out))
               obtain⟨z0,z1,z2,z3,_⟩:=pk
               have d2:=((Below.refl wr.heap.size wr).alloc (Nat.le_refl _) (.cells #[.int .u8 (j:Int)] 5)).cell (p:=⟨b2,off2+j,none⟩) (World.block_lt_of_cell? _ _ d1)
               rw[d1] at d2
               have HOW0:=HOW
               have HOW:Hid ((wr.alloc (.cells #[.int .u8 (j:Int)] 5)).ownsRow (w2.heap.size+1) 61 2 (.slice (some ⟨g,0,none⟩) n c) n (zc (own ++ l))):=HOW0.out.alloc _
               clear hkid hke hke' hr5 hst hfl hfu HT HZ IH hmore hy HOW0 hml hy15
               go_wp2_with fail
               refine KI.mono ?_
               rintro e w5 ⟨a5,m5,c5,rfl,hg5,o5,b5⟩
               have B5:Hid (Below (w2.heap.size+1) (w2.alloc (.cells #[.int .i64 3,.string ⟨([]:List UInt8).toArray⟩,.slice (some ⟨b2,off2,none⟩) ls.length c2,.string ⟨x.toArray⟩] 93)) w5):=BWX.out.trans (b5.mono HSW.out)
               have BF:Hid (Below w.heap.size w w5):=BN.out.trans (B5.out.mono (by omega))
               clear KI
               cases r5 with
               | none =>
                 have HNO:Hid (res=none):=HLO.out (.inl rfl)
                 clear o5 b5 HLO HSO hg5
                 go_wp2
                 go_ret2
                 exact zdx HNO.out BF.out
               | some l5 =>
                 obtain⟨g5,rfl⟩:=hg5 rfl
                 simp only[Option.getD_some,Option.isSome_some] at o5 ⊢
                 obtain⟨rfl,_,i5⟩:=za8 o5
                 have H60:l5.length≤60:=HL5.out l5 rfl
                 by_cases hsum:n+l5.length≤60
                 · have hsi:(n:Int)+(l5.length:Int)≤60:=by omega
                   have hsd:decide ((60:Int)<(n:Int)+(l5.length:Int))=false:=by simp;omega
                   have OW5:Hid (w5.ownsRow (w2.heap.size+1) 61 2 (.slice (some ⟨g,0,none⟩) n c) n (zc (own ++ l))):=zb4 HOW.out b5
                   have HT5:Hid (za7 (atF (zh ps) f) 3 full ls (j+1)=some (l ++ l5)):=HSO.out l5 rfl
                   have NEW5:Hid (∀ j u,(zc l5)[j]? = some u→w5.cell? ((⟨g5,0,none⟩:Addr).add j)=some u):=zmo rfl o5
                   have S5:Hid (w2.heap.size+1≤w5.heap.size):=by have:=HSW.out;have:=b5.size;rw[Hid];omega
                   have hwl:IntKind.i64.wrap ((n:Int)+(l5.length:Int))=(n:Int)+(l5.length:Int):=zar _ (by omega) (by omega)
                   clear o5 b5 HLO HSO i5 hg5
                   go_wp2_with (at_builtin;refine wpList_append_own _ rfl _ _ 32 rfl (w2.heap.size+1) 61 j0 (.agg #[.string ⟨#[]⟩,.string ⟨#[]⟩]) 2 32 Tryz.underlying32 hj0 hy0 hy1 hy2 rfl (by decide) (.slice (some ⟨g,0,none⟩) n c) n _ rfl OW5.out ⟨g5,0,none⟩ l5.length c5 (zc l5) rfl (zay l5) NEW5.out (pone l5) (by unfold maxLen;omega) (by omega) S5.out ?_)
                   intro v6 w6 hown6 hgrow6 hnil6
                   obtain⟨g6,c6,rfl⟩:=zip hown6 (by first | exact hnil6 | exact fun h=>by have:=hnil6.1 h;simp at this)
                   have HB6:Hid (Below (w2.heap.size+1) (w2.alloc (.cells #[.int .i64 3,.string ⟨([]:List UInt8).toArray⟩,.slice (some ⟨b2,off2,none⟩) ls.length c2,.string ⟨x.toArray⟩] 93)) w6):=B5.out.grown hgrow6 S5.out (fun q hq=>by have:=OW5.out.lt q hq;omega)
                   have HO6:Hid (w6.ownsRow (w2.heap.size+1) 61 2 (.slice (some ⟨g6,0,none⟩) (n+l5.length) c6) (n+l5.length) (zc (own ++ (l ++ l5)))):=by rw[Hid,←List.append_assoc,zai];exact hown6
                   clear hown6 hgrow6 hnil6 NEW5
                   go_wp2
                   go_roundw
                   case rel=>exact⟨j+1,l ++ l5,g6,c6,n+l5.length,by omega,by go_num,rfl,by rw[Hid,HN.out,List.length_append];omega,hsum,HT5,HO6,HB6⟩
                   case measure=>simp[intOf];omega
                 · have hsi:¬ (n:Int)+(l5.length:Int)≤60:=by omega
                   have hsd:decide ((60:Int)<(n:Int)+(l5.length:Int))=true:=by simp;omega
                   have hwl:IntKind.i64.wrap ((n:Int)+(l5.length:Int))=(n:Int)+(l5.length:Int):=zar _ (by omega) (by omega)
                   have HNO:Hid (res=none):=HLO.out (.inr ⟨l5,rfl,hsum⟩)
                   clear o5 b5 HLO HSO hg5 i5
                   go_wp2
                   go_ret2
                   exact zdx HNO.out BF.out
         · obtain rfl:j=ls.length:=by omega
           have hji:¬ (ls.length:Int)<(ls.length:Int):=by omega
           have hres:res=some (own ++ l):=by
            rw[HZ.out,HT.out]
            exact zwd rfl (by rw[List.length_append];have:=HN.out;omega)
           have HF:Hid (Below w.heap.size w wr):=BN.out.trans (HBW.out.mono (by omega))
           have HOX:Hid (wr.ownsRow w.heap.size 61 2 (.slice (some ⟨g,0,none⟩) n c) n (zc (own ++ l))):=HOW.out.mono (by omega)
           have HRS:Hid (res=some (own ++ l)):=hres
           clear hres
           go_wp2
           go_ret2
           rw[HRS.out]
           exact⟨_,_,_,rfl,fun _=>⟨g,rfl⟩,by simp only[Option.getD_some,List.length_append];rw[←HN.out];exact HOX.out,HF.out⟩
     · have HR:Hid (zb3 (atF (zh ps) (f+1) h path)=none):=by rw[Hid,zop _ _ _ _ (by omega)];rfl
       have hp1:¬ (path.length:Int)≤24:=by omega
       clear hfd hok htr
       go_enter Tryz.func44,Tryz.ntmps44
       go_wp2_with fail
       refine KF.mono ?_
       rintro e w1 ⟨rfl,b1⟩
       go_wp2
       go_ret2
       exact zdx HR.out b1
end Go.Proofs.YtiadimhoolekbaaGreatDoor
