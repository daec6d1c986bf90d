import Derived.Test.YtahocpjieffbaaaGreatDoorGatAll
import Derived.Test.YtahocpjieffbaaaGreatDoorHexAll
import Derived.Test.YtahocpjieffbaaaGreatDoorPairs
import Derived.Deep.RegionLawGrows
import Derived.Laws.EntriesVeiled
import Derived.Deep.QuietTactic
import Derived.BigQuiet
import Derived.Test.YtahocpjieffbaaaGreatDoorSBuilds
import Derived.Test.YtahocpjieffbaaaGreatDoorLaidAll
namespace Go.Proofs.YtahocpjieffbaaaGreatDoor
open Go.RowKit
set_option linter.unusedVariables false
set_option maxRecDepth 100000 in
set_option maxHeartbeats 400000 in
theorem gt_byteText (x:Int) (c:UInt8) (w:World) (hx:x=(c.toNat:Int)) :
 Calls Tryz.prog 90 #[.int .i64 x] w fun e w'=>e=.returned (.string ⟨[c].toArray⟩)∧Below w.heap.size w w':=by
 have hc:=c.toNat_lt
 have hcv:=lit_string [c] #[.int .u8 x] (by simp only[bcells,List.map_cons,List.map_nil];rw[hx]) 1 rfl (by decide)
 have h0:0≤x:=by omega
 have h1:x<256:=by omega
 clear hx hc
 go_enter Tryz.func90,Tryz.ntmps90
 go_wp2
 go_ret
 exact⟨rfl,(Below.refl _ _).alloc (Nat.le_refl _) _⟩
def nibK (k:Int) (i:Nat):List UInt8:=if k=3 then [UInt8.ofNat i] else []
theorem step_nib (k:Int) (full:List UInt8) (i:Nat):full ++ nibK k i=stepK k full i:=by
 unfold nibK stepK
 split <;> simp
set_option maxRecDepth 100000 in
set_option maxHeartbeats 400000 in
theorem impl_stepNibble (k:Int) (p:ByteArray) (a:Option Addr) (m c:Nat) (v:ByteArray) (i:Nat) (w:World) (hi:i<256) :
 Calls Tryz.prog 65 #[.agg #[.int .i64 k,.string p,.slice a m c,.string v],.int .i64 (i:Int)] w fun e w'=>e=.returned (.string ⟨(nibK k i).toArray⟩)∧Below w.heap.size w w':=by
 by_cases hk:k=3
 · subst hk
   have hq:nibK 3 i=[UInt8.ofNat i]:=rfl
   obtain⟨y,hy⟩:∃ y,y=UInt8.ofNat i:=⟨_,rfl⟩
   have hyi:(i:Int)=(y.toNat:Int):=by rw[hy,UInt8.toNat_ofNat'];omega
   rw[hq,←hy]
   obtain⟨x,hx⟩:∃ x,x=(i:Int):=⟨_,rfl⟩
   rw[←hx] at hyi ⊢
   have K:=fun W=>gt_byteText x y W hyi
   clear hx hy hq hyi
   go_enter Tryz.func65,Tryz.ntmps65
   go_wp2_with fail
   refine (K _).mono ?_
   rintro e w1 ⟨rfl,b1⟩
   go_wp2
   go_ret
   exact⟨rfl,((Below.refl _ _).alloc (Nat.le_refl _) _).trans (b1.mono (by simp))⟩
 · have hq:nibK k i=[]:=if_neg hk
   rw[hq]
   have hk':(k == 3)=false:=by simpa using hk
   have hk2:(k != 3)=true:=by simpa using hk
   clear hq
   go_enter Tryz.func65,Tryz.ntmps65
   go_wp2
   go_ret
   exact⟨rfl,(Below.refl _ _).alloc (Nat.le_refl _) _⟩
theorem at_post0 {w0 W W':World} {t:List UInt8} {e:Ending} {k:Int} {q x:List UInt8} {ls:List (List UInt8)} (hnd:nodeAt t=⟨k,q,ls,x⟩) (h:AtPost0 w0 W (some t) e W'):∃ (a:Option Addr) (c:Nat),e=.returned (.tuple #[.agg #[.string ⟨t.toArray⟩,.int .i64 k,.string ⟨q.toArray⟩,.slice a ls.length c,.string ⟨x.toArray⟩],.bool true])∧IsStrs w0 a ls∧Below W.heap.size W W':=by
 obtain⟨⟨a,c,h1,h2,_⟩,h4⟩:=h
 rw[hnd] at h1 h2
 exact⟨a,c,h1,h2,h4⟩
theorem ba_catG (a b:List UInt8):(ByteArray.mk a.toArray ++ ByteArray.mk b.toArray)=ByteArray.mk (a ++ b).toArray:=by
 have h:(ByteArray.mk a.toArray ++ ByteArray.mk b.toArray).data=(ByteArray.mk (a ++ b).toArray).data:=by simp
 exact ByteArray.ext h
set_option maxRecDepth 100000 in
set_option maxHeartbeats 4000000 in
theorem gat_node (w0 : World) (bn bp bg mb lim : Nat) (ps : List PairL) (f : Nat) (hst : storeOkL ps = true) (hM : HeldM w0 mb ps ps.length)
 (hbn:w0.heap.size≤bn) (hbp:w0.heap.size≤bp) (hbg:w0.heap.size≤bg) (hnp:bn≠bp) (hgp:bg≠bp) (hnl:bn<lim) (hpl:bp<lim) (hgl:bg<lim) (hlim:lim≤bn+1∨lim≤bp+1∨lim≤bg+1)
 (hk:GatAt w0 bn bp bg mb lim ps f):GatAt w0 bn bp bg mb lim ps (f+1):=by
 intro h path w v0 acc hh hf hp hn hB hE hacc
 have K1:=impl_atV0 mb ps h w0 w hst hh hM hB
 have c0:=(one_cell hE.nodes).1
 cases hfd:findL ps h with
 | none =>
   have HR:Hid (Lost (atF (findL ps) (f+1) h path) acc.length):=.inl (atF_none _ _ _ _ hfd)
   rw[hfd] at K1
   have hz:(ByteArray.mk path.toArray ++ ByteArray.mk #[])=ByteArray.mk path.toArray:=by have:=ba_catG path [];simpa using this
   clear hfd
   go_enter Tryz.func62,Tryz.ntmps62
   go_wp2_with fail
   refine K1.mono ?_
   rintro e w1 ⟨rfl,b1⟩
   have B1:Hid (∀ o,Below w0.heap.size w0 (w1.alloc o)):=fun o=>(hB.trans (b1.mono hB.size)).alloc (Nat.le_trans hB.size b1.size) o
   clear b1 K1 c0
   go_wp2
   go_ret
   exact .inr ⟨rfl,HR.out,B1.out _⟩
 | some t =>
   obtain⟨_,_,_,_,htr⟩:=findL_ok ps hst h t hfd
   have hok:=nodeAt_ok t htr
   obtain⟨nd,hnd⟩:∃ nd,nd=nodeAt t:=⟨_,rfl⟩
   obtain⟨k,q,ls,x⟩:=nd
   rw[←hnd] at hok
   have hparts:=ok_parts _ hok
   simp only at hparts
   obtain⟨hq24,hqn,hx60,hkind⟩:=hparts
   obtain⟨res,hres⟩:∃ res,res=atF (findL ps) (f+1) h path:=⟨_,rfl⟩
   have HRES:Hid (res=if fullOk (path ++ q) x=true then (underTo (atF (findL ps) f) k (path ++ q) ls ls.length).map (ownP (path ++ q) x ++ ·) else none):=by rw[Hid,hres,atF_some _ _ _ _ _ k q x ls hfd hnd.symm]
   rw[←hres]
   obtain⟨full,hfull⟩:∃ full,full=path ++ q:=⟨_,rfl⟩
   have hcat:(ByteArray.mk path.toArray ++ ByteArray.mk q.toArray)=ByteArray.mk full.toArray:=by rw[hfull];exact ba_catG path q
   have HFL:Hid (full.length=path.length+q.length):=by rw[Hid,hfull,List.length_append]
   have hzf:(ByteArray.mk full.toArray).size=full.length:=by simp[ByteArray.size]
   rw[←hfull] at HRES
   have HFN:Hid (isNibs full=true):=by rw[Hid,hfull,isNibs_append,hn,hqn];rfl
   have HAP:Hid (∀ W W' e,AtPost0 w0 W (some t) e W'→∃ (a:Option Addr) (c:Nat),e=.returned (.tuple #[.agg #[.string ⟨t.toArray⟩,.int .i64 k,.string ⟨q.toArray⟩,.slice a ls.length c,.string ⟨x.toArray⟩],.bool true])∧IsStrs w0 a ls∧Below W.heap.size W W'):=fun W W' e hh=>at_post0 hnd.symm hh
   rw[hfd] at K1
   clear hres hfd hok htr hnd hfull hn hqn
   by_cases hf24:full.length≤24
   · have hfi : (full.length : Int) ≤ 24 := by omega
     have hfd:decide ((24:Int)<(full.length:Int))=false:=by simp;omega
     obtain⟨va,vm,vc,rfl⟩:=own_slice2 hE.row
     obtain⟨hvm,_,_⟩:=isPairs_own hE.row
     have HVM:Hid (vm=acc.length):=hvm
     by_cases hac:acc.length≤60
     · have hvi : (vm : Int) ≤ 60 := by omega
       have hvd:decide ((60:Int)<(vm:Int))=false:=by simp;omega
       have hlw:lim≤w.heap.size:=by
        have h1:=lt_of_block hE.nodes
        have h2:=lt_of_block hE.box
        have h3:=lt_of_block hE.self
        omega
       have hw0:=hB.size
       have HE:Hid (GEnv w bn bp bg mb (.slice va vm vc) acc lim):=hE
       have HB:Hid (Below w0.heap.size w0 w):=hB
       have HG:Hid (GatAt w0 bn bp bg mb lim ps f):=hk
       have hvl:Hid (∀ b,(Value.slice va vm vc).ownBlock=some b→lim≤b∧b<w.heap.size):=fun b hb=>hE.row.lt b hb
       clear hE hB hk hM hvm
       go_enter Tryz.func62,Tryz.ntmps62
       go_wp2_with fail
       refine K1.mono ?_
       rintro e w1 h1
       obtain⟨a1,c1,rfl,i1,b1⟩:=HAP.out _ _ _ h1
       have bX:Below w.heap.size w (w1.alloc (.cells #[.string ⟨t.toArray⟩,.int .i64 k,.string ⟨q.toArray⟩,.slice a1 ls.length c1,.string ⟨x.toArray⟩] 103)):=b1.trans ((Below.refl _ _).alloc b1.size _)
       have hsw:=b1.size
       have EX:Hid (GEnv (w1.alloc (.cells #[.string ⟨t.toArray⟩,.int .i64 k,.string ⟨q.toArray⟩,.slice a1 ls.length c1,.string ⟨x.toArray⟩] 103)) bn bp bg mb (.slice va vm vc) acc lim):=HE.out.below bX
       have KX:Hid (GKept w0 w bp (.slice va vm vc) (.slice va vm vc) (w1.alloc (.cells #[.string ⟨t.toArray⟩,.int .i64 k,.string ⟨q.toArray⟩,.slice a1 ls.length c1,.string ⟨x.toArray⟩] 103))):=(GKept.start HB.out).on bX hw0
       have QX:Hid ((w1.alloc (.cells #[.string ⟨t.toArray⟩,.int .i64 k,.string ⟨q.toArray⟩,.slice a1 ls.length c1,.string ⟨x.toArray⟩] 103)).heap[w1.heap.size]? = some (.cells #[.string ⟨t.toArray⟩,.int .i64 k,.string ⟨q.toArray⟩,.slice a1 ls.length c1,.string ⟨x.toArray⟩] 103 (0,0))):=heap_alloc_new w1 _
       have cp:=(one_cell EX.out.box).1
       obtain⟨n0,n1,n2,n3,n4,_⟩:=five_cells QX.out
       have I0:Hid (IsStrs w0 a1 ls):=i1
       have hszX:(w1.alloc (.cells #[.string ⟨t.toArray⟩,.int .i64 k,.string ⟨q.toArray⟩,.slice a1 ls.length c1,.string ⟨x.toArray⟩] 103)).heap.size=w1.heap.size+1:=by simp
       clear b1 K1 c0 h1 HAP i1 bX HB HE
       go_upto_if 38 with fail
       go_cut [] from 12 (fun wx=>∃ v:Value,Hid (fullOk full x=true)∧Hid (GEnv wx bn bp bg mb v (acc ++ ownP full x) lim)∧Hid (GKept w0 w bp (.slice va vm vc) v wx)∧Hid (wx.heap[w1.heap.size]? = some (.cells #[.string ⟨t.toArray⟩,.int .i64 k,.string ⟨q.toArray⟩,.slice a1 ls.length c1,.string ⟨x.toArray⟩] 103 (0,0)))∧acc.length+(ownP full x).length≤61∧Hid (∀ b,v.ownBlock=some b→b≠w1.heap.size))
       case first =>
        by_cases hx:x=[]
        · subst hx
          have HFO:Hid (fullOk full []=true):=by simp[Hid,fullOk,hf24]
          have HV:Hid (∀ b,(Value.slice va vm vc).ownBlock=some b→b≠w1.heap.size):=fun b hb e=>by have:=hvl.out b hb;omega
          have hnil:acc ++ ownP full []=acc:=by simp[ownP]
          clear HRES
          go_wp2_with fail
          go_meet
          case rel=>exact⟨_,HFO,by rw[hnil];exact EX,KX,QX,by simp[ownP];omega,HV⟩
        · have hxe:x.isEmpty=false:=by cases x with | nil=>exact absurd rfl hx | cons _ _=>rfl
          have hxn:(!x.isEmpty)=true:=by rw[hxe];rfl
          by_cases hpar:full.length % 2=0
          · have hpi : (full.length : Int) % 2 = 0 := by omega
            have hpd:((full.length:Int) % 2 == 0)=true:=by simp;omega
            have hpb:((full.length:Int) % 2 != 0)=false:=by simp;omega
            have HFO:Hid (fullOk full x=true):=by simp[Hid,fullOk,hf24,hpar]
            obtain⟨i0,hi0,hz0,hz1,hz2⟩:=info_parts infoPair
            have hown1:ownP full x=[(pack full,x)]:=if_neg hx
            have KP:Hid (∀ W,Calls Tryz.prog 64 #[.string ⟨full.toArray⟩] W fun e w'=>e=.returned (.string ⟨(pack full).toArray⟩)∧Below W.heap.size W w'):=fun W=>by
             have:=impl_packed ⟨full.toArray⟩ (full.length / 2) W (by omega) (by rw[hzf];omega) (by have:=HFN.out;simpa using this)
             simpa using this
            obtain⟨key,hkey⟩:∃ key,key=pack full:=⟨_,rfl⟩
            rw[←hkey] at KP hown1
            have HON:Hid (ownP full x=[(key,x)]):=hown1
            have K8:=KP.out (w1.alloc (.cells #[.string ⟨t.toArray⟩,.int .i64 k,.string ⟨q.toArray⟩,.slice a1 ls.length c1,.string ⟨x.toArray⟩] 103)).drew
            have hbpw:=lt_of_block EX.out.box
            clear HRES hkey KP hown1 hx
            go_wp2_with fail
            all_goals first | (exfalso;rename_i h9;rw[hxe] at h9;exact absurd h9 (by decide)) | skip
            go_region_law (first
             | (go_simp
                go_at_call 64
                refine K8.mono ?_
                rintro r w3 ⟨rfl,b3'⟩
                have b3:Below (w1.alloc (.cells #[.string ⟨t.toArray⟩,.int .i64 k,.string ⟨q.toArray⟩,.slice a1 ls.length c1,.string ⟨x.toArray⟩] 103)).heap.size (w1.alloc (.cells #[.string ⟨t.toArray⟩,.int .i64 k,.string ⟨q.toArray⟩,.slice a1 ls.length c1,.string ⟨x.toArray⟩] 103)) w3:=⟨b3'.os,b3'.tape,b3'.output,b3'.size,b3'.block⟩
                have s3:w1.heap.size+1≤w3.heap.size:=(by have:=b3.size;omega)
                have E3:Hid (GEnv w3 bn bp bg mb (.slice va vm vc) acc lim):=EX.out.below b3
                have Q3:Hid (w3.heap[w1.heap.size]? = some (.cells #[.string ⟨t.toArray⟩,.int .i64 k,.string ⟨q.toArray⟩,.slice a1 ls.length c1,.string ⟨x.toArray⟩] 103 (0,0))):=(b3.block _ (by omega)).trans QX.out
                have ca3:=(one_cell E3.out.box).1
                obtain⟨t0,t1,t2,t3,t4,_⟩:=five_cells Q3.out
                have CA:Hid (Below (w1.alloc (.cells #[.string ⟨t.toArray⟩,.int .i64 k,.string ⟨q.toArray⟩,.slice a1 ls.length c1,.string ⟨x.toArray⟩] 103)).heap.size (w1.alloc (.cells #[.string ⟨t.toArray⟩,.int .i64 k,.string ⟨q.toArray⟩,.slice a1 ls.length c1,.string ⟨x.toArray⟩] 103)) w3):=b3
                have OA:Hid ((w3.alloc (.cells #[.string ⟨key.toArray⟩,.string ⟨x.toArray⟩] 56)).ownsRow lim 56 2 (.slice va vm vc) acc.length (pcells acc)):=E3.out.row.alloc _
                have NA:Hid (∀ q u,[Value.string ⟨key.toArray⟩,.string ⟨x.toArray⟩][q]? = some u→(w3.alloc (.cells #[.string ⟨key.toArray⟩,.string ⟨x.toArray⟩] 56)).cell? ((⟨w3.heap.size,0,none⟩:Addr).add q)=some u):=World.news_of_block (cs:=#[.string ⟨key.toArray⟩,.string ⟨x.toArray⟩]) (t:=56) (fr:=(0,0)) (heap_alloc_new w3 _)
                have ca4:=(one_cell (E3.out.below ((Below.refl _ _).alloc (Nat.le_refl _) (.cells #[.string ⟨key.toArray⟩,.string ⟨x.toArray⟩] 56))).box).1
                clear b3 b3')
             | (refine step_append_lies _ rfl (.tmp 43) (.tmp 50) 24 rfl lim 56 i0 (.agg #[.string ⟨#[]⟩, .string ⟨#[]⟩]) 2 32 Tryz.underlying24 hi0 hz0 hz1 hz2 rfl (by decide) (.slice va vm vc) acc.length (pcells acc) (by simp [Act.eval]) OA.out ⟨w3.heap.size, 0, none⟩ 1 1 [.string ⟨key.toArray⟩, .string ⟨x.toArray⟩] (by simp [Act.eval]) rfl NA.out (by simp [Value.oneCell']) (by omega) (by unfold maxLen; omega) (by omega) (by simp; omega) (w3.heap.size + 1) (by simp) ?_
                intro g5 cap5 w5 hown5 hgrow5 hat5 hlt5
                have HF:=KX.out.more EX.out hw0 hnp hgp hpl hnl hgl hbp (by omega) hlw CA.out (e:=(key,x)) (v6:=.slice (some ⟨g5,0,none⟩) (acc.length+1) cap5) hgrow5 (fun q hq=>by
                 simp only[Value.ownBlock,Option.some.injEq] at hq
                 subst hq
                 rcases hat5 with h | h
                 · exact .inl h
                 · exact .inr (by simp;omega)) hown5
                have HF1:Hid (GKept w0 w bp (.slice va vm vc) (.slice (some ⟨g5,0,none⟩) (acc.length+1) cap5) (w5.setCell ⟨bp,0,none⟩ (.slice (some ⟨g5,0,none⟩) (acc.length+1) cap5))):=HF.1
                have HF2:Hid (GEnv (w5.setCell ⟨bp,0,none⟩ (.slice (some ⟨g5,0,none⟩) (acc.length+1) cap5)) bn bp bg mb (.slice (some ⟨g5,0,none⟩) (acc.length+1) cap5) (acc ++ [(key,x)]) lim):=HF.2
                have P5:w5.heap[bp]? = some (.cells #[.slice va vm vc] 24 (0,0)):=(hgrow5.block bp (by have:=lt_of_block E3.out.box;simp;omega) (fun e=>by have:=hvl.out _ e.symm;omega)).trans ((heap_alloc_old w3 _ (lt_of_block E3.out.box)).trans E3.out.box)
                have cb5:=(one_cell P5).1
                have fb5:=(one_cell P5).2 0
                have HQ5:Hid ((w5.setCell ⟨bp,0,none⟩ (.slice (some ⟨g5,0,none⟩) (acc.length+1) cap5)).heap[w1.heap.size]? = some (.cells #[.string ⟨t.toArray⟩,.int .i64 k,.string ⟨q.toArray⟩,.slice a1 ls.length c1,.string ⟨x.toArray⟩] 103 (0,0))):=(Below.heap_setCell _ _ _ _ (by simp only;omega)).trans ((hgrow5.block _ (by simp;omega) (fun e=>by have:=hvl.out _ e.symm;omega)).trans ((heap_alloc_old w3 _ (by omega)).trans Q3.out))
                have HV5:Hid (∀ b,(Value.slice (some ⟨g5,0,none⟩) (acc.length+1) cap5).ownBlock=some b→b≠w1.heap.size):=(fun b hb e=>by
                 simp only[Value.ownBlock,Option.some.injEq] at hb
                 subst hb
                 rcases hat5 with h | h
                 · have:=hvl.out _ h;omega
                 · (try simp at h);omega)
                clear hown5 hgrow5 hat5 P5 HF))
            all_goals
             go_wp2
             go_meet
             case rel=>exact⟨_,HFO,by rw[HON.out];exact HF2,HF1,HQ5,by rw[HON.out];simp;omega,HV5⟩
          · have HR:Hid (Lost res acc.length):=by
             refine .inl (HRES.out.trans (if_neg ?_))
             simp only[fullOk,Bool.and_eq_true,Bool.or_eq_true,decide_eq_true_eq]
             exact fun h=>h.2.elim hx hpar
            have hpi:(full.length:Int) % 2=1:=by omega
            have hpd:((full.length:Int) % 2 == 0)=false:=by simp;omega
            have hpb:((full.length:Int) % 2 != 0)=true:=by simp;omega
            clear HRES hx
            go_wp2
            all_goals first | (exfalso;rename_i h9;rw[hxe] at h9;exact absurd h9 (by decide)) | skip
            go_ret
            exact .inr ⟨rfl,HR.out,KX.out.below⟩
       case rest =>
        obtain⟨v1,HFO,HE1,HK1,HH1,hl1,HV1⟩:=hcut
        obtain⟨own,hown⟩:∃ own,own=ownP full x:=⟨_,rfl⟩
        have HRK:Hid (res=(underTo (atF (findL ps) f) k full ls ls.length).map (own ++ ·)):=by rw[Hid,HRES.out,if_pos HFO.out,hown]
        rw[←hown] at HE1 hl1
        have HWX:Hid (w1.heap.size<wc.heap.size):=lt_of_block HH1.out
        obtain⟨hb,hhb⟩:∃ hb,hb=w1.heap.size:=⟨_,rfl⟩
        have HHB:Hid (w.heap.size≤hb):=by rw[Hid,hhb];exact hsw
        obtain⟨e0,e1,e2,e3,e4,_⟩:=five_cells HH1.out
        rw[←hhb] at e0 e1 e2 e3 e4 HH1 HV1 ⊢
        clear hown HRES HFO EX KX QX cp n0 n1 n2 n3 n4 hszX HWX hhb
        go_wp2
        go_loopw [10,11,56] (fun _ _ i wr=>∃ (j:Nat) (v:Value) (l:List PairL),j≤ls.length∧i=.int .i64 (j:Int)∧Hid (underTo (atF (findL ps) f) k full ls j=some l)∧Hid (GEnv wr bn bp bg mb v (acc ++ own ++ l) lim)∧Hid (GKept w0 w bp (.slice va vm vc) v wr)∧Hid (wr.heap[hb]? = some (.cells #[.string ⟨t.toArray⟩,.int .i64 k,.string ⟨q.toArray⟩,.slice a1 ls.length c1,.string ⟨x.toArray⟩] 103 (0,0)))∧acc.length+own.length+l.length≤61∧Hid (∀ b,v.ownBlock=some b→b≠hb)) (fun _ _ i _=>ls.length - (intOf i).toNat)
        case atStart=>exact⟨0,v1,[],Nat.zero_le _,rfl,rfl,by rw[List.append_nil];exact HE1,HK1,HH1,by simpa using hl1,HV1⟩
        case round =>
         obtain⟨j,v,l,hj,rfl,HT,HEr,HKr,HHr,hlr,HVr⟩:=hrel
         clear e0 e1 e2 e3 e4
         obtain⟨e0,e1,e2,e3,e4,_⟩:=five_cells HHr.out
         by_cases hlt:j<ls.length
         · have hji : (j : Int) < (ls.length : Int) := by omega
           have hj0:(0:Int)≤(j:Int):=by omega
           obtain⟨b2,off2,ha1,hcell⟩:=strs_at I0.out j hlt
           subst ha1
           have d1:=(HKr.out.below.cell (p:=⟨b2,off2+j,none⟩) (World.block_lt_of_cell? w0 _ (hcell j hlt))).trans (hcell j hlt)
           obtain⟨kid,hkid⟩:∃ kid,kid=ls.getD j []:=⟨_,rfl⟩
           rw[←hkid] at d1
           have hl16:ls.length≤16:=by
            rcases hkind with ⟨_,h2,_⟩ | ⟨_,_,_,y,h4,_⟩ | ⟨_,_,h3,_⟩
            · rw[h2];simp
            · rw[h4];simp
            · omega
           clear hcell
           by_cases hke:kid=[]
           · have HT1:Hid (underTo (atF (findL ps) f) k full ls (j+1)=some l):=underTo_skip HT.out (by rw[←hkid];exact hke)
             subst hke
             clear hkid HG HRK HT
             go_wp2
             first | (go_quiet (fail);go_wp2) | skip
             go_roundw
             case rel=>exact⟨j+1,v,l,by omega,by go_num,HT1,by first | exact HEr.out | exact HEr.out.drew | exact HEr.out.drewN,by first | exact HKr.out | exact HKr.out.drew | exact HKr.out.drewN,HHr,hlr,HVr⟩
             case measure=>simp[intOf];omega
           · have hke' : ls.getD j [] ≠ [] := by rw [← hkid]; exact hke
             have hkm:ls.getD j []∈ls:=by rw[List.getD_eq_getElem?_getD,List.getElem?_eq_getElem hlt];exact List.getElem_mem hlt
             have hks : kid.length ≤ 32 ∧ ls.length ≤ 16 ∧ path.length + 1 ≤ (stepK k full j).length ∧ (stepK k full j).length ≤ 25 ∧ isNibs (stepK k full j) = true := by
              have hfu:=HFL.out
              rcases hkind with ⟨_,h2,_⟩ | ⟨h1,h2,_,y,h4,h5⟩ | ⟨h1,h2,h3,h4⟩
              · rw[h2] at hlt;simp at hlt
              · have hq1:q.length≠0:=fun e=>h2 (List.length_eq_zero_iff.1 e)
                have hst:stepK k full j=full:=if_neg (by omega)
                rw[hst]
                refine⟨?_,by rw[h4];simp,by omega,by omega,HFN.out⟩
                rw[←hkid,h4] at hkm
                simp at hkm
                rw[hkm];omega
              · have hst:stepK k full j=full ++ [UInt8.ofNat j]:=if_pos h1
                rw[h2] at hfu
                simp at hfu
                rw[hst]
                refine⟨?_,by omega,by simp;omega,by simp;omega,?_⟩
                · rcases h4 _ hkm with h | h
                  · exact absurd h hke'
                  · rw[hkid];omega
                · have h15:(UInt8.ofNat j).toNat≤15:=by rw[UInt8.toNat_ofNat'];omega
                  rw[isNibs_append,HFN.out]
                  simp only[isNibs,List.all_cons,List.all_nil,Bool.and_true,Bool.true_and,decide_eq_true_eq]
                  exact h15
             obtain⟨hk1,hk2,hk3,hk4,hk5⟩:=hks
             obtain⟨nb,hnb⟩:∃ nb,nb=nibK k j:=⟨_,rfl⟩
             have KS:Hid (∀ (a:Option Addr) (m c:Nat) W,Calls Tryz.prog 65 #[.agg #[.int .i64 k,.string ⟨q.toArray⟩,.slice a m c,.string ⟨x.toArray⟩],.int .i64 (j:Int)] W fun e w'=>e=.returned (.string ⟨nb.toArray⟩)∧Below W.heap.size W w'):=fun a m c W=>by rw[hnb];exact impl_stepNibble k _ a m c _ j W (by omega)
             obtain⟨more,hmore⟩:∃ more,more=stepK k full j:=⟨_,rfl⟩
             have hcat2:(ByteArray.mk full.toArray ++ ByteArray.mk nb.toArray)=ByteArray.mk more.toArray:=by rw[hmore,←step_nib,hnb];exact ba_catG full _
             rw[←hmore] at hk3 hk4 hk5
             have hnbl:nb.length≤1:=by rw[hnb];unfold nibK;split <;> simp
             have hnol:¬ 9223372036854775807<full.length+nb.length:=by omega
             have KG:Hid (∀ W,Below w0.heap.size w0 W→GEnv W bn bp bg mb v (acc ++ own ++ l) lim→Calls Tryz.prog 62 #[.string ⟨kid.toArray⟩,.string ⟨more.toArray⟩,.pointer (some ⟨bn,0,none⟩),.pointer (some ⟨bp,0,none⟩),.pointer (some ⟨bg,0,none⟩)] W fun r w'=>GPost w0 W bn bp bg mb lim v (acc ++ own ++ l) (atF (findL ps) f kid more) r w'):=fun W hW hE=>HG.out kid more W v (acc ++ own ++ l) (by omega) (by omega) hk4 hk5 hW hE (by simp only[List.length_append];omega)
             have HLO:Hid (Lost (atF (findL ps) f kid more) (acc ++ own ++ l).length→Lost res acc.length):=fun hl=>by
              rw[HRK.out]
              refine kid_lost HT.out hlt hke' ?_
              rw[←hkid,←hmore]
              simpa only[List.length_append] using hl
             have HSO:Hid (∀ l5,atF (findL ps) f kid more=some l5→underTo (atF (findL ps) f) k full ls (j+1)=some (l ++ l5)):=fun l5 h5=>by
              rw[underTo_on HT.out hke',←hkid,←hmore,h5];rfl
             have hkn:kid.isEmpty=false:=by cases kid with | nil=>exact absurd rfl hke | cons _ _=>rfl
             have KS1:=KS.out (some ⟨b2,off2,none⟩) ls.length c1 wr.drew
             have s1:=(one_cell HEr.out.self).1
             obtain⟨res5,hres5⟩:∃ r5,r5=atF (findL ps) f kid more:=⟨_,rfl⟩
             rw[←hres5] at KG HLO HSO
             have hhbr:=lt_of_block HHr.out
             clear hkid hke hke' hkm HG HRK HT hnb hmore KS hres5 hk1 hk3 hk4 hk5
             go_wp2_with fail
             go_region_law (first
              | (go_simp
                 go_at_call 65
                 refine KS1.mono ?_
                 rintro r w2 ⟨rfl,b2'⟩
                 have bb:Below wr.heap.size wr w2:=⟨b2'.os,b2'.tape,b2'.output,b2'.size,b2'.block⟩
                 have E2:Hid (GEnv w2 bn bp bg mb v (acc ++ own ++ l) lim):=HEr.out.below bb
                 have K2:Hid (GKept w0 w bp (.slice va vm vc) v w2):=HKr.out.on bb hw0
                 have H2:Hid (w2.heap[hb]? = some (.cells #[.string ⟨t.toArray⟩,.int .i64 k,.string ⟨q.toArray⟩,.slice (some ⟨b2,off2,none⟩) ls.length c1,.string ⟨x.toArray⟩] 103 (0,0))):=(bb.block _ hhbr).trans HHr.out
                 have s2:=(one_cell E2.out.self).1
                 have hb2:=lt_of_block H2.out
                 have KG2:=KG.out w2 K2.out.below E2.out
                 clear bb b2')
              | (go_simp
                 go_at_call 62
                 refine KG2.mono ?_
                 rintro r w5 h5
                 obtain⟨ok,rfl,hy5,hn5⟩:=gpost_bool h5
                 have HY:Hid (ok=true→∃ l5 v',res5=some l5∧GEnv w5 bn bp bg mb v' (acc ++ own ++ l ++ l5) lim∧(acc ++ own ++ l).length+l5.length≤61∧GKept w0 w2 bp v v' w5):=hy5
                 have HN5:Hid (ok=false→Lost res5 (acc ++ own ++ l).length∧Below w0.heap.size w0 w5):=hn5
                 clear hy5 hn5 h5))
             all_goals
              cases ok with
              | true =>
                obtain⟨l5,v5,h51,h52,h53,h54⟩:=HY.out rfl
                have HT5:Hid (underTo (atF (findL ps) f) k full ls (j+1)=some (l ++ l5)):=HSO.out l5 h51
                have HE5:Hid (GEnv w5 bn bp bg mb v5 (acc ++ own ++ (l ++ l5)) lim):=(by rw[Hid,←List.append_assoc];exact h52)
                have HK5:Hid (GKept w0 w bp (.slice va vm vc) v5 w5):=K2.out.trans h54
                have HH5:Hid (w5.heap[hb]? = some (.cells #[.string ⟨t.toArray⟩,.int .i64 k,.string ⟨q.toArray⟩,.slice (some ⟨b2,off2,none⟩) ls.length c1,.string ⟨x.toArray⟩] 103 (0,0))):=(h54.kept hb hb2 (fun e=>by have:=lt_of_block E2.out.box;have:=HHB.out;omega) (fun e=>HVr.out hb e rfl)).trans H2.out
                have HV5:Hid (∀ b,v5.ownBlock=some b→b≠hb):=(fun b hbb e=>by
                 rcases h54.own b hbb with h | h
                 · exact HVr.out b h e
                 · omega)
                have hl5:acc.length+own.length+(l ++ l5).length≤61:=(by simp only[List.length_append] at h53 ⊢;omega)
                clear h51 h52 h53 h54 HY HN5 HSO HLO
                go_wp2
                go_roundw
                case rel=>exact⟨j+1,v5,l ++ l5,by omega,by go_num,HT5,by first | exact HE5.out | exact HE5.out.drew | exact HE5.out.drewN,by first | exact HK5.out | exact HK5.out.drew | exact HK5.out.drewN,HH5,hl5,HV5⟩
                case measure=>simp[intOf];omega
              | false =>
                obtain⟨h51,h52⟩:=HN5.out rfl
                have HR5:Hid (Lost res acc.length):=HLO.out h51
                have HB5:Hid (Below w0.heap.size w0 w5):=h52
                clear h51 h52 HY HN5 HSO HLO
                go_wp2
                go_ret
                exact .inr ⟨rfl,HR5.out,by first | exact HB5.out | exact HB5.out.drew | exact below_dr HB5.out⟩
         · obtain rfl:j=ls.length:=by omega
           have hji:¬ (ls.length:Int)<(ls.length:Int):=by omega
           have hres:res=some (own ++ l):=by rw[HRK.out,HT.out];rfl
           have HRS:Hid (res=some (own ++ l)):=hres
           clear hres
           go_wp2
           go_ret
           exact .inl ⟨own ++ l,v,rfl,HRS.out,by rw[←List.append_assoc];exact HEr.out,by simp only[List.length_append];omega,HKr.out⟩
     · have HR:Hid (Lost res acc.length):=by
        cases res with
        | none=>exact .inl rfl
        | some l=>exact .inr ⟨l,rfl,by omega⟩
       have hvi:¬ (vm:Int)≤60:=by omega
       have hvd:decide ((60:Int)<(vm:Int))=true:=by simp;omega
       have HE:Hid (GEnv w bn bp bg mb (.slice va vm vc) acc lim):=hE
       clear HRES hf24 hac hE hvm
       go_enter Tryz.func62,Tryz.ntmps62
       go_wp2_with fail
       refine K1.mono ?_
       rintro e w1 h1
       obtain⟨a1,c1,rfl,i1,b1⟩:=HAP.out _ _ _ h1
       have B1:Hid (∀ o,Below w0.heap.size w0 (w1.alloc o)):=fun o=>(hB.trans (b1.mono hB.size)).alloc (Nat.le_trans hB.size b1.size) o
       obtain⟨n0,n1,n2,n3,n4,_⟩:=five_cells (heap_alloc_new w1 (.cells #[.string ⟨t.toArray⟩,.int .i64 k,.string ⟨q.toArray⟩,.slice a1 ls.length c1,.string ⟨x.toArray⟩] 103))
       have cp:=(one_cell (HE.out.below (b1.trans ((Below.refl _ _).alloc b1.size (.cells #[.string ⟨t.toArray⟩,.int .i64 k,.string ⟨q.toArray⟩,.slice a1 ls.length c1,.string ⟨x.toArray⟩] 103)))).box).1
       clear b1 K1 c0 h1 HAP i1 HE
       go_wp2
       go_ret
       exact .inr ⟨rfl,HR.out,B1.out _⟩
   · have HR:Hid (Lost res acc.length):=by
      refine .inl (HRES.out.trans (if_neg ?_))
      simp only[fullOk,Bool.and_eq_true,decide_eq_true_eq]
      exact fun h=>hf24 h.1
     have hfi:¬ (full.length:Int)≤24:=by omega
     have hfd:decide ((24:Int)<(full.length:Int))=true:=by simp;omega
     clear HRES hf24
     go_enter Tryz.func62,Tryz.ntmps62
     go_wp2_with fail
     refine K1.mono ?_
     rintro e w1 h1
     obtain⟨a1,c1,rfl,i1,b1⟩:=HAP.out _ _ _ h1
     have B1:Hid (∀ o,Below w0.heap.size w0 (w1.alloc o)):=fun o=>(hB.trans (b1.mono hB.size)).alloc (Nat.le_trans hB.size b1.size) o
     obtain⟨n0,n1,n2,n3,n4,_⟩:=five_cells (heap_alloc_new w1 (.cells #[.string ⟨t.toArray⟩,.int .i64 k,.string ⟨q.toArray⟩,.slice a1 ls.length c1,.string ⟨x.toArray⟩] 103))
     clear b1 K1 c0 h1 HAP i1
     go_wp2
     go_ret
     exact .inr ⟨rfl,HR.out,B1.out _⟩
def SGPost (w:World) (res:Option (List PairL)) (e:Ending) (w':World):Prop:=∃ (a:Option Addr) (m c:Nat),e=.returned (.tuple #[.slice a m c,.bool res.isSome])∧(res.isSome=true→∃ g,a=some ⟨g,0,none⟩)∧w'.ownsRow w.heap.size 56 2 (.slice a m c) (res.getD []).length (pcells (res.getD []))∧Below w.heap.size w w'
theorem sg_none {w w':World} {res:Option (List PairL)} (h:res=none) (hb:Below w.heap.size w w'):SGPost w res (.returned (.tuple #[.slice none 0 0,.bool false])) w':=by
 subst h
 exact⟨none,0,0,rfl,fun h=>by simp at h,World.ownsRow_nil _ _ _ _,hb⟩
theorem ba_cat (a b:List UInt8):(ByteArray.mk a.toArray ++ ByteArray.mk b.toArray)=ByteArray.mk (a ++ b).toArray:=by
 have h:(ByteArray.mk a.toArray ++ ByteArray.mk b.toArray).data=(ByteArray.mk (a ++ b).toArray).data:=by simp
 exact ByteArray.ext h
theorem impl_gat (w0:World) (bn bp bg mb lim:Nat) (ps:List PairL) (hst:storeOkL ps=true) (hM:HeldM w0 mb ps ps.length)
 (hbn:w0.heap.size≤bn) (hbp:w0.heap.size≤bp) (hbg:w0.heap.size≤bg) (hnp:bn≠bp) (hgp:bg≠bp) (hnl:bn<lim) (hpl:bp<lim) (hgl:bg<lim) (hlim:lim≤bn+1∨lim≤bp+1∨lim≤bg+1) :
 ∀ f,GatAt w0 bn bp bg mb lim ps f
 | 0=>fun h path w v acc hh hf hp=>by omega
 | f+1=>gat_node w0 bn bp bg mb lim ps f hst hM hbn hbp hbg hnp hgp hnl hpl hgl hlim (impl_gat w0 bn bp bg mb lim ps hst hM hbn hbp hbg hnp hgp hnl hpl hgl hlim f)
def GPPost (w:World) (res:Option (List PairL)) (e:Ending) (w':World):Prop :=
 (∃ (l:List PairL) (a:Option Addr) (c:Nat),e=.returned (.tuple #[.slice a l.length c,.bool true])∧res=some l∧l.length≤61∧w'.ownsRow w.heap.size 56 2 (.slice a l.length c) l.length (pcells l)∧Below w.heap.size w w')∨(e=.returned (.tuple #[.slice none 0 0,.bool false])∧Lost res 0∧Below w.heap.size w w')
set_option maxRecDepth 100000 in
set_option maxHeartbeats 4000000 in
theorem impl_pairs (mb:Nat) (ps:List PairL) (root:List UInt8) (w:World) (hst:storeOkL ps=true) (hM:HeldM w mb ps ps.length) (hr:root.length≤1048576) :
 Calls Tryz.prog 41 #[.map (some mb),.string ⟨root.toArray⟩] w fun e w'=>GPPost w (atF (findL ps) 26 root []) e w':=by
 obtain⟨fv,hfv⟩:∃ fv:Value,fv=.func (.func 62) #[] #[.pointer (some ⟨w.heap.size,0,none⟩),.pointer (some ⟨w.heap.size+1,0,none⟩),.pointer (some ⟨w.heap.size+2,0,none⟩)]:=⟨_,rfl⟩
 have hB:Below w.heap.size w (((w.alloc (.cells #[.map (some mb)] 72)).alloc (.cells #[.slice none 0 0] 24)).alloc (.cells #[fv] 107)):=(((Below.refl _ _).alloc (Nat.le_refl _) _).alloc (by simp) _).alloc (by simp;omega) _
 have n1:(((w.alloc (.cells #[.map (some mb)] 72)).alloc (.cells #[.slice none 0 0] 24)).alloc (.cells #[fv] 107)).heap[w.heap.size]? = some (.cells #[.map (some mb)] 72 (0,0)):=by
  rw[Below.heap_alloc _ _ _ (by simp;omega),Below.heap_alloc _ _ _ (by simp)];exact heap_alloc_new _ _
 have n2:(((w.alloc (.cells #[.map (some mb)] 72)).alloc (.cells #[.slice none 0 0] 24)).alloc (.cells #[fv] 107)).heap[w.heap.size+1]? = some (.cells #[.slice none 0 0] 24 (0,0)):=by
  rw[Below.heap_alloc _ _ _ (by simp)]
  have:=heap_alloc_new (w.alloc (.cells #[.map (some mb)] 72)) (.cells #[.slice none 0 0] 24)
  simpa using this
 have n3:(((w.alloc (.cells #[.map (some mb)] 72)).alloc (.cells #[.slice none 0 0] 24)).alloc (.cells #[fv] 107)).heap[w.heap.size+2]? = some (.cells #[fv] 107 (0,0)):=by
  have:=heap_alloc_new ((w.alloc (.cells #[.map (some mb)] 72)).alloc (.cells #[.slice none 0 0] 24)) (.cells #[fv] 107)
  simpa using this
 rw[hfv] at hB n1 n2 n3
 have c1:=(one_cell n1).1
 have c2:=(one_cell n2).1
 have c3:=(one_cell n3).1
 have KH:=impl_gat w w.heap.size (w.heap.size+1) (w.heap.size+2) mb (w.heap.size+3) ps hst hM (Nat.le_refl _) (by omega) (by omega) (by omega) (by omega) (by omega) (by omega) (by omega) (by omega) 26 root [] _ (.slice none 0 0) [] hr (by simp) (by simp) rfl hB ⟨n1,n2,n3,World.ownsRow_nil _ _ _ _⟩ (by simp)
 obtain⟨res,hres⟩:∃ res,res=atF (findL ps) 26 root []:=⟨_,rfl⟩
 rw[←hres] at KH ⊢
 clear hfv hres hB n1 n2 n3 hM
 go_enter Tryz.func41,Tryz.ntmps41
 go_wp2_with fail
 with_reducible refine KH.mono ?_
 rintro r w3 h3
 clear KH c1 c2 c3
 rcases h3 with ⟨l,v',rfl,h1,h2,h3,h4⟩ | ⟨rfl,h1,h2⟩
 · have cb3:=(one_cell h2.box).1
   have hrow:=h2.row
   rw[List.nil_append] at hrow
   obtain⟨va,vm,vc,rfl⟩:=own_slice2 hrow
   obtain⟨rfl,_,_⟩:=isPairs_own hrow
   have HO:Hid (w3.ownsRow w.heap.size 56 2 (.slice va l.length vc) l.length (pcells l)):=hrow.mono (by omega)
   have HR:Hid (res=some l):=h1
   have HB:Hid (Below w.heap.size w w3):=h4.below
   have hl61:l.length≤61:=by simpa using h3
   clear h1 h2 h3 h4 hrow
   go_wp2
   first | (go_quiet (fail);go_wp2) | skip
   go_ret2
   exact .inl ⟨l,va,vc,rfl,HR.out,hl61,by first | exact HO.out | exact own_blockG HO.out fun q _=>rfl,by first | exact HB.out | exact HB.out.drew | exact below_dr HB.out⟩
 · have HR:Hid (Lost res 0):=h1
   have HB:Hid (Below w.heap.size w w3):=h2
   clear h1 h2
   go_wp2
   first | (go_quiet (fail);go_wp2) | skip
   go_ret2
   exact .inr ⟨rfl,HR.out,by first | exact HB.out | exact HB.out.drew | exact below_dr HB.out⟩
def PAPost (w:World) (res:Option (List PairL)) (e:Ending) (w':World):Prop:=∃ (a:Option Addr) (m c:Nat),e=.returned (.tuple #[.slice a m c,.bool res.isSome])∧w'.ownsRow w.heap.size 56 2 (.slice a m c) (res.getD []).length (pcells (res.getD []))∧Below w.heap.size w w'
theorem pa_none {w w':World} {res:Option (List PairL)} (h:res=none) (hb:Below w.heap.size w w'):PAPost w res (.returned (.tuple #[.slice none 0 0,.bool false])) w':=by
 subst h
 exact⟨none,0,0,rfl,World.ownsRow_nil _ _ _ _,hb⟩
theorem pa_empty {w w':World} {res:Option (List PairL)} (h:res=some []) (hb:Below w.heap.size w w'):PAPost w res (.returned (.tuple #[.slice none 0 0,.bool true])) w':=by
 subst h
 exact⟨none,0,0,rfl,World.ownsRow_nil _ _ _ _,hb⟩
theorem find_nodes (ps:List PairL) (hst:storeOkL ps=true):∀ h t,findL ps h=some t→(nodeAt t).ok=true:=fun h t hf=>by
 obtain⟨_,_,_,_,htr⟩:=findL_ok ps hst h t hf
 exact nodeAt_ok t htr
set_option maxRecDepth 100000 in
set_option maxHeartbeats 2000000 in
theorem impl_pairsAt (a:Option Addr) (cap:Nat) (ps:List PairL) (root:List UInt8) (w:World) (hT:Tab w) (hl:ps.length≤1048576) (hm:∀ p∈ps,p.1.length≤1048576∧p.2.length≤1048576) (hs:IsPairs w a ps) (hr:root.length≤1048576) :
 Calls Tryz.prog 16 #[.slice a ps.length cap,.string ⟨root.toArray⟩] w fun e w'=>PAPost w (pairsAtR ps root) e w':=by
 have K:=impl_heldNodesV a cap ps w hT hl hm hs
 have HT:Hid (Tab w):=hT
 by_cases hok:storeOkL ps=true
 · rw [hok] at K
   obtain⟨em,hem⟩:∃ em,em=emptyL:=⟨_,rfl⟩
   have KE:Hid (∀ W,Tab W→_):=fun W h=>impl_empty W h
   rw[←hem] at KE
   clear hs hm hT
   by_cases he:root=em
   · have HR:Hid (pairsAtR ps root=some []):=pairsAt_empty hok (he.trans hem)
     obtain⟨res,hres⟩:∃ res,res=pairsAtR ps root:=⟨_,rfl⟩
     rw[←hres] at HR ⊢
     subst he
     clear hres hem
     go_enter Tryz.func16,Tryz.ntmps16
     go_wp2_with fail
     refine K.mono ?_
     rintro e w1 ⟨mb,rfl,hM,hmb,b1⟩
     have K2:=KE.out w1 (HT.out.later b1)
     go_wp2_with fail
     refine K2.mono ?_
     rintro e w2 ⟨rfl,b2⟩
     have B2:=b1.trans (b2.mono b1.size)
     go_wp2
     go_ret2
     exact pa_empty HR.out B2
   · have heb:(root == em)=false:=by rw[beq_eq_false_iff_ne];exact he
     have he':¬ root=emptyL:=fun e=>he (e.trans hem.symm)
     have HLO:Hid (Lost (atF (findL ps) 26 root []) 0→pairsAtR ps root=none):=fun h=>pairsAt_lost hok he' h
     have HSO:Hid (∀ l,atF (findL ps) 26 root []=some l→pairsAtR ps root=if rootOk l=true∧rootR l=root then some l else none):=fun l h=>pairsAt_some hok he' h
     have HSM:Hid (∀ l,atF (findL ps) 26 root []=some l→∀ e∈l,e.1.length≤1048576∧e.2.length≤1048576):=fun l h e hel=>by
      have:=atF_small _ (find_nodes ps hok) 26 root [] l h e hel
      omega
     have KP:Hid (∀ mb W,HeldM W mb ps ps.length→Calls Tryz.prog 41 #[.map (some mb),.string ⟨root.toArray⟩] W fun e w'=>GPPost W (atF (findL ps) 26 root []) e w'):=fun mb W hM=>impl_pairs mb ps root W hok hM hr
     obtain⟨rp,hrp⟩:∃ rp,rp=pairsAtR ps root:=⟨_,rfl⟩
     obtain⟨ra,hra⟩:∃ ra,ra=atF (findL ps) 26 root []:=⟨_,rfl⟩
     rw[←hrp] at HLO HSO ⊢
     rw[←hra] at HLO HSO HSM KP
     clear hrp hra he he' hem
     go_enter Tryz.func16,Tryz.ntmps16
     go_wp2_with fail
     refine K.mono ?_
     rintro e w1 ⟨mb,rfl,hM,hmb,b1⟩
     have K2:=KE.out w1 (HT.out.later b1)
     have HM1:Hid (HeldM w1 mb ps ps.length):=hM
     clear hM K
     go_wp2_with fail
     refine K2.mono ?_
     rintro e w2 ⟨rfl,b2⟩
     have B2:=b1.trans (b2.mono b1.size)
     have K3:=KP.out mb w2 (HM1.out.later b2)
     clear K2 KP HM1 b1 b2
     go_wp2_with fail
     refine K3.mono ?_
     rintro e w3 h3
     clear K3
     rcases h3 with ⟨l,a3,c3,rfl,h31,h32,h33,b3⟩ | ⟨rfl,h31,b3⟩
     · have B3:=B2.trans (b3.mono B2.size)
       have HR:Hid (rp=if rootOk l=true∧rootR l=root then some l else none):=HSO.out l h31
       have HO3:Hid (w3.ownsRow w.heap.size 56 2 (.slice a3 l.length c3) l.length (pcells l)):=h33.mono B2.size
       have K4:=impl_rootOf a3 c3 l w3 (by omega) (HSM.out l h31) (isPairs_own h33).2.2 (HT.out.later B3)
       obtain⟨rr,hrr⟩:∃ rr,rr=rootR l:=⟨_,rfl⟩
       obtain⟨ro,hro⟩:∃ ro,ro=rootOk l:=⟨_,rfl⟩
       rw[←hrr,←hro] at K4 HR
       clear h31 h33 HLO HSO HSM b3 B2 hrr hro
       go_wp2_with fail
       refine K4.mono ?_
       rintro e w4 ⟨rfl,b4⟩
       have B4:=B3.trans (b4.mono B3.size)
       have HO4:Hid (w4.ownsRow w.heap.size 56 2 (.slice a3 l.length c3) l.length (pcells l)):=kept2 HO3.out b4
       clear K4 b4 B3 HO3
       cases ro with
       | false =>
         have HN:Hid (rp=none):=HR.out.trans (if_neg (fun h=>by simp at h))
         clear HR
         go_wp2
         go_ret2
         exact pa_none HN.out B4
       | true =>
         by_cases hrr:rr=root
         · have HN:Hid (rp=some l):=HR.out.trans (if_pos ⟨rfl,hrr⟩)
           clear HR
           subst hrr
           go_wp2
           go_ret2
           rw[HN.out]
           exact⟨a3,_,c3,rfl,HO4.out,B4⟩
         · have HN:Hid (rp=none):=HR.out.trans (if_neg (fun h=>hrr h.2))
           have hrb:(rr == root)=false:=by rw[beq_eq_false_iff_ne];exact hrr
           clear HR
           go_wp2
           go_ret2
           exact pa_none HN.out B4
     · have B3:=B2.trans (b3.mono B2.size)
       have HN:Hid (rp=none):=HLO.out h31
       clear h31 HLO HSO HSM
       go_wp2
       go_ret2
       exact pa_none HN.out B3
 · have HN:Hid (pairsAtR ps root=none):=pairsAt_no hok
   have hok':storeOkL ps=false:=by simpa using hok
   rw[hok'] at K
   obtain⟨res,hres⟩:∃ res,res=pairsAtR ps root:=⟨_,rfl⟩
   rw[←hres] at HN ⊢
   clear hs hm hT hok hok' hres
   go_enter Tryz.func16,Tryz.ntmps16
   go_wp2_with fail
   refine K.mono ?_
   rintro e w1 ⟨rfl,b1⟩
   go_wp2
   go_ret2
   exact pa_none HN.out b1
end Go.Proofs.YtahocpjieffbaaaGreatDoor
