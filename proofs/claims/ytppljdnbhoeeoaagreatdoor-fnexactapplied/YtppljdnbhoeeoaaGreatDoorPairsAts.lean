/-
 Texts that are laid as one: GatI, SGat, PairsAt, RepOk.
-/
import Derived.Test.YtppljdnbhoeeoaaGreatDoorGatAll
import Derived.Test.YtppljdnbhoeeoaaGreatDoorLaidAll
import Derived.Test.YtppljdnbhoeeoaaGreatDoorRepAll
namespace Go.Proofs.YtppljdnbhoeeoaaGreatDoor
open Go.RowKit
set_option linter.unusedVariables false
set_option maxHeartbeats 4000000
set_option maxRecDepth 100000
theorem za0a (x:Int) (c:UInt8) (w:World) (hx:x=(c.toNat:Int)) :
 Calls Tryz.prog 137 #[.int .i64 x] w fun e w'=>e=.returned (.string ⟨[c].toArray⟩)∧Below w.heap.size w w':=by
 have hc:=c.toNat_lt
 have hcv:=zcv [c] #[.int .u8 x] (by simp only[ze,List.map_cons,List.map_nil];rw[hx]) 1 rfl (by decide)
 have h0:0≤x:=by omega
 have h1:x<256:=by omega
 clear hx hc
 go_enter Tryz.func137,Tryz.ntmps137
 go_wp2
 go_ret
 exact⟨rfl,(Below.refl _ _).alloc (Nat.le_refl _) _⟩
def nibK (k:Int) (i:Nat):List UInt8:=if k=3 then [UInt8.ofNat i] else []
theorem za0b (k:Int) (full:List UInt8) (i:Nat):full ++ nibK k i=zc7 k full i:=by
 unfold nibK zc7
 split <;> simp
theorem za0c (k:Int) (p:ByteArray) (a:Option Addr) (m c:Nat) (v:ByteArray) (i:Nat) (w:World) (hi:i<256) :
 Calls Tryz.prog 104 #[.agg #[.int .i64 k,.string p,.slice a m c,.string v],.int .i64 (i:Int)] w fun e w'=>e=.returned (.string ⟨(nibK k i).toArray⟩)∧Below w.heap.size w w':=by
 by_cases hk:k=3
 · subst hk
   have hq:nibK 3 i=[UInt8.ofNat i]:=rfl
   obtain⟨y,hy⟩:∃ y,y=UInt8.ofNat i:=⟨_,rfl⟩
   have hyi:(i:Int)=(y.toNat:Int):=by rw[hy,UInt8.toNat_ofNat'];omega
   rw[hq,←hy]
   obtain⟨x,hx⟩:∃ x,x=(i:Int):=⟨_,rfl⟩
   rw[←hx] at hyi ⊢
   have K:=fun W=>za0a x y W hyi
   clear hx hy hq hyi
   go_enter Tryz.func104,Tryz.ntmps104
   go_wp2_with fail
   refine (K _).mono ?_
   rintro e w1 ⟨rfl,b1⟩
   go_wp2
   go_ret
   exact⟨rfl,((Below.refl _ _).alloc (Nat.le_refl _) _).trans (b1.mono (by simp))⟩
 · have hq:nibK k i=[]:=if_neg hk
   rw[hq]
   have hk':(k == 3)=false:=by simpa using hk
   have hk2:(k != 3)=true:=by simpa using hk
   clear hq
   go_enter Tryz.func104,Tryz.ntmps104
   go_wp2
   go_ret
   exact⟨rfl,(Below.refl _ _).alloc (Nat.le_refl _) _⟩
theorem za0d {w0 W W':World} {t:List UInt8} {e:Ending} {k:Int} {q x:List UInt8} {ls:List (List UInt8)} (hnd:nodeAt t=⟨k,q,ls,x⟩) (h:zjf w0 W (some t) e W'):∃ (a:Option Addr) (c:Nat),e=.returned (.tuple #[.agg #[.string ⟨t.toArray⟩,.int .i64 k,.string ⟨q.toArray⟩,.slice a ls.length c,.string ⟨x.toArray⟩],.bool true])∧zt w0 a ls∧Below W.heap.size W W':=by
 obtain⟨⟨a,c,h1,h2,_⟩,h4⟩:=h
 rw[hnd] at h1 h2
 exact⟨a,c,h1,h2,h4⟩
theorem zks (a b:List UInt8):(ByteArray.mk a.toArray ++ ByteArray.mk b.toArray)=ByteArray.mk (a ++ b).toArray:=by
 have h:(ByteArray.mk a.toArray ++ ByteArray.mk b.toArray).data=(ByteArray.mk (a ++ b).toArray).data:=by simp
 exact ByteArray.ext h
theorem za0e (w0 : World) (bn bp bg mb lim : Nat) (ps : List za) (f : Nat) (hst : zaa ps = true) (hM : HeldM w0 mb ps ps.length)
 (hbn:w0.heap.size≤bn) (hbp:w0.heap.size≤bp) (hbg:w0.heap.size≤bg) (hnp:bn≠bp) (hgp:bg≠bp) (hnl:bn<lim) (hpl:bp<lim) (hgl:bg<lim) (hlim:lim≤bn+1∨lim≤bp+1∨lim≤bg+1)
 (hk:zh7 w0 bn bp bg mb lim ps f):zh7 w0 bn bp bg mb lim ps (f+1):=by
 intro h path w v0 acc hh hf hp hn hB hE hacc
 have K1:=zup mb ps h w0 w hst hh hM hB
 have c0:=(one_cell hE.nodes).1
 cases hfd:zm ps h with
 | none =>
   have HR:Hid (Lost (atF (zm ps) (f+1) h path) acc.length):=.inl (zh5 _ _ _ _ hfd)
   rw[hfd] at K1
   have hz:(ByteArray.mk path.toArray ++ ByteArray.mk #[])=ByteArray.mk path.toArray:=by have:=zks path [];simpa using this
   clear hfd
   go_enter Tryz.func101,Tryz.ntmps101
   go_wp2_with fail
   refine K1.mono ?_
   rintro e w1 ⟨rfl,b1⟩
   have B1:Hid (∀ o,Below w0.heap.size w0 (w1.alloc o)):=fun o=>(hB.trans (b1.mono hB.size)).alloc (Nat.le_trans hB.size b1.size) o
   clear b1 K1 c0
   go_wp2
   go_ret
   exact .inr ⟨rfl,HR.out,B1.out _⟩
 | some t =>
   obtain⟨_,_,_,_,htr⟩:=zh9 ps hst h t hfd
   have hok:=zjm t htr
   obtain⟨nd,hnd⟩:∃ nd,nd=nodeAt t:=⟨_,rfl⟩
   obtain⟨k,q,ls,x⟩:=nd
   rw[←hnd] at hok
   have hparts:=zjn _ hok
   simp only at hparts
   obtain⟨hq24,hqn,hx60,hkind⟩:=hparts
   obtain⟨res,hres⟩:∃ res,res=atF (zm ps) (f+1) h path:=⟨_,rfl⟩
   have HRES:Hid (res=if zb9 (path ++ q) x=true then (za2 (atF (zm ps) f) k (path ++ q) ls ls.length).map (ownP (path ++ q) x ++ ·) else none):=by rw[Hid,hres,zjg _ _ _ _ _ k q x ls hfd hnd.symm]
   rw[←hres]
   obtain⟨full,hfull⟩:∃ full,full=path ++ q:=⟨_,rfl⟩
   have hcat:(ByteArray.mk path.toArray ++ ByteArray.mk q.toArray)=ByteArray.mk full.toArray:=by rw[hfull];exact zks path q
   have HFL:Hid (full.length=path.length+q.length):=by rw[Hid,hfull,List.length_append]
   have hzf:(ByteArray.mk full.toArray).size=full.length:=by simp[ByteArray.size]
   rw[←hfull] at HRES
   have HFN:Hid (zq full=true):=by rw[Hid,hfull,zf6,hn,hqn];rfl
   have HAP:Hid (∀ W W' e,zjf w0 W (some t) e W'→∃ (a:Option Addr) (c:Nat),e=.returned (.tuple #[.agg #[.string ⟨t.toArray⟩,.int .i64 k,.string ⟨q.toArray⟩,.slice a ls.length c,.string ⟨x.toArray⟩],.bool true])∧zt w0 a ls∧Below W.heap.size W W'):=fun W W' e hh=>za0d hnd.symm hh
   rw[hfd] at K1
   clear hres hfd hok htr hnd hfull hn hqn
   by_cases hf24:full.length≤24
   · have hfi : (full.length : Int) ≤ 24 := by omega
     have hfd:decide ((24:Int)<(full.length:Int))=false:=by simp;omega
     obtain⟨va,vm,vc,rfl⟩:=zfi hE.row
     obtain⟨hvm,_,_⟩:=zac hE.row
     have HVM:Hid (vm=acc.length):=hvm
     by_cases hac:acc.length≤60
     · have hvi : (vm : Int) ≤ 60 := by omega
       have hvd:decide ((60:Int)<(vm:Int))=false:=by simp;omega
       have hlw:lim≤w.heap.size:=by
        have h1:=lt_of_block hE.nodes
        have h2:=lt_of_block hE.box
        have h3:=lt_of_block hE.self
        omega
       have hw0:=hB.size
       have HE:Hid (GEnv w bn bp bg mb (.slice va vm vc) acc lim):=hE
       have HB:Hid (Below w0.heap.size w0 w):=hB
       have HG:Hid (zh7 w0 bn bp bg mb lim ps f):=hk
       have hvl:Hid (∀ b,(Value.slice va vm vc).ownBlock=some b→lim≤b∧b<w.heap.size):=fun b hb=>hE.row.lt b hb
       clear hE hB hk hM hvm
       go_enter Tryz.func101,Tryz.ntmps101
       go_wp2_with fail
       refine K1.mono ?_
       rintro e w1 h1
       obtain⟨a1,c1,rfl,i1,b1⟩:=HAP.out _ _ _ h1
       have bX:Below w.heap.size w (w1.alloc (.cells #[.string ⟨t.toArray⟩,.int .i64 k,.string ⟨q.toArray⟩,.slice a1 ls.length c1,.string ⟨x.toArray⟩] 159)):=b1.trans ((Below.refl _ _).alloc b1.size _)
       have hsw:=b1.size
       have EX:Hid (GEnv (w1.alloc (.cells #[.string ⟨t.toArray⟩,.int .i64 k,.string ⟨q.toArray⟩,.slice a1 ls.length c1,.string ⟨x.toArray⟩] 159)) bn bp bg mb (.slice va vm vc) acc lim):=HE.out.below bX
       have KX:Hid (GKept w0 w bp (.slice va vm vc) (.slice va vm vc) (w1.alloc (.cells #[.string ⟨t.toArray⟩,.int .i64 k,.string ⟨q.toArray⟩,.slice a1 ls.length c1,.string ⟨x.toArray⟩] 159))):=(GKept.start HB.out).on bX hw0
       have QX:Hid ((w1.alloc (.cells #[.string ⟨t.toArray⟩,.int .i64 k,.string ⟨q.toArray⟩,.slice a1 ls.length c1,.string ⟨x.toArray⟩] 159)).heap[w1.heap.size]? = some (.cells #[.string ⟨t.toArray⟩,.int .i64 k,.string ⟨q.toArray⟩,.slice a1 ls.length c1,.string ⟨x.toArray⟩] 159 (0,0))):=heap_alloc_new w1 _
       have cp:=(one_cell EX.out.box).1
       obtain⟨n0,n1,n2,n3,n4,_⟩:=zeh QX.out
       have I0:Hid (zt w0 a1 ls):=i1
       have hszX:(w1.alloc (.cells #[.string ⟨t.toArray⟩,.int .i64 k,.string ⟨q.toArray⟩,.slice a1 ls.length c1,.string ⟨x.toArray⟩] 159)).heap.size=w1.heap.size+1:=by simp
       clear b1 K1 c0 h1 HAP i1 bX HB HE
       go_upto_if 38 with fail
       go_cut [] from 12 (fun wx=>∃ v:Value,Hid (zb9 full x=true)∧Hid (GEnv wx bn bp bg mb v (acc ++ ownP full x) lim)∧Hid (GKept w0 w bp (.slice va vm vc) v wx)∧Hid (wx.heap[w1.heap.size]? = some (.cells #[.string ⟨t.toArray⟩,.int .i64 k,.string ⟨q.toArray⟩,.slice a1 ls.length c1,.string ⟨x.toArray⟩] 159 (0,0)))∧acc.length+(ownP full x).length≤61∧Hid (∀ b,v.ownBlock=some b→b≠w1.heap.size))
       case first =>
        by_cases hx:x=[]
        · subst hx
          have HFO:Hid (zb9 full []=true):=by simp[Hid,zb9,hf24]
          have HV:Hid (∀ b,(Value.slice va vm vc).ownBlock=some b→b≠w1.heap.size):=fun b hb e=>by have:=hvl.out b hb;omega
          have hnil:acc ++ ownP full []=acc:=by simp[ownP]
          clear HRES
          go_wp2_with fail
          go_meet
          case rel=>exact⟨_,HFO,by rw[hnil];exact EX,KX,QX,by simp[ownP];omega,HV⟩
        · have hxe:x.isEmpty=false:=by cases x with | nil=>exact absurd rfl hx | cons _ _=>rfl
          have hxn:(!x.isEmpty)=true:=by rw[hxe];rfl
          by_cases hpar:full.length % 2=0
          · have hpi : (full.length : Int) % 2 = 0 := by omega
            have hpd:((full.length:Int) % 2 == 0)=true:=by simp;omega
            have hpb:((full.length:Int) % 2 != 0)=false:=by simp;omega
            have HFO:Hid (zb9 full x=true):=by simp[Hid,zb9,hf24,hpar]
            obtain⟨i0,hi0,hz0,hz1,hz2⟩:=info_parts zhz
            have hown1:ownP full x=[(pack full,x)]:=if_neg hx
            have KP:Hid (∀ W,Calls Tryz.prog 103 #[.string ⟨full.toArray⟩] W fun e w'=>e=.returned (.string ⟨(pack full).toArray⟩)∧Below W.heap.size W w'):=fun W=>by
             have:=znp ⟨full.toArray⟩ (full.length / 2) W (by omega) (by rw[hzf];omega) (by have:=HFN.out;simpa using this)
             simpa using this
            obtain⟨key,hkey⟩:∃ key,key=pack full:=⟨_,rfl⟩
            rw[←hkey] at KP hown1
            have HON:Hid (ownP full x=[(key,x)]):=hown1
            have K8:=KP.out (w1.alloc (.cells #[.string ⟨t.toArray⟩,.int .i64 k,.string ⟨q.toArray⟩,.slice a1 ls.length c1,.string ⟨x.toArray⟩] 159)).drew
            have hbpw:=lt_of_block EX.out.box
            clear HRES hkey KP hown1 hx
            go_wp2_with fail
            all_goals first | (exfalso;rename_i h9;rw[hxe] at h9;exact absurd h9 (by decide)) | skip
            go_region_law (first
             | (go_simp
                go_at_call 103
                refine K8.mono ?_
                rintro r w3 ⟨rfl,b3'⟩
                have b3:Below (w1.alloc (.cells #[.string ⟨t.toArray⟩,.int .i64 k,.string ⟨q.toArray⟩,.slice a1 ls.length c1,.string ⟨x.toArray⟩] 159)).heap.size (w1.alloc (.cells #[.string ⟨t.toArray⟩,.int .i64 k,.string ⟨q.toArray⟩,.slice a1 ls.length c1,.string ⟨x.toArray⟩] 159)) w3:=⟨b3'.os,b3'.tape,b3'.output,b3'.size,b3'.block⟩
                have s3:w1.heap.size+1≤w3.heap.size:=(by have:=b3.size;omega)
                have E3:Hid (GEnv w3 bn bp bg mb (.slice va vm vc) acc lim):=EX.out.below b3
                have Q3:Hid (w3.heap[w1.heap.size]? = some (.cells #[.string ⟨t.toArray⟩,.int .i64 k,.string ⟨q.toArray⟩,.slice a1 ls.length c1,.string ⟨x.toArray⟩] 159 (0,0))):=(b3.block _ (by omega)).trans QX.out
                have ca3:=(one_cell E3.out.box).1
                obtain⟨t0,t1,t2,t3,t4,_⟩:=zeh Q3.out
                have CA:Hid (Below (w1.alloc (.cells #[.string ⟨t.toArray⟩,.int .i64 k,.string ⟨q.toArray⟩,.slice a1 ls.length c1,.string ⟨x.toArray⟩] 159)).heap.size (w1.alloc (.cells #[.string ⟨t.toArray⟩,.int .i64 k,.string ⟨q.toArray⟩,.slice a1 ls.length c1,.string ⟨x.toArray⟩] 159)) w3):=b3
                have OA:Hid ((w3.alloc (.cells #[.string ⟨key.toArray⟩,.string ⟨x.toArray⟩] 103)).ownsRow lim 103 2 (.slice va vm vc) acc.length (zb acc)):=E3.out.row.alloc _
                have NA:Hid (∀ q u,[Value.string ⟨key.toArray⟩,.string ⟨x.toArray⟩][q]? = some u→(w3.alloc (.cells #[.string ⟨key.toArray⟩,.string ⟨x.toArray⟩] 103)).cell? ((⟨w3.heap.size,0,none⟩:Addr).add q)=some u):=World.news_of_block (cs:=#[.string ⟨key.toArray⟩,.string ⟨x.toArray⟩]) (t:=103) (fr:=(0,0)) (heap_alloc_new w3 _)
                have ca4:=(one_cell (E3.out.below ((Below.refl _ _).alloc (Nat.le_refl _) (.cells #[.string ⟨key.toArray⟩,.string ⟨x.toArray⟩] 103))).box).1
                clear b3 b3')
             | (refine step_append_lies _ rfl (.tmp 43) (.tmp 50) 54 rfl lim 103 i0 (.agg #[.string ⟨#[]⟩, .string ⟨#[]⟩]) 2 32 Tryz.underlying54 hi0 hz0 hz1 hz2 rfl (by decide) (.slice va vm vc) acc.length (zb acc) (by simp [Act.eval]) OA.out ⟨w3.heap.size, 0, none⟩ 1 1 [.string ⟨key.toArray⟩, .string ⟨x.toArray⟩] (by simp [Act.eval]) rfl NA.out (by simp [Value.oneCell']) (by omega) (by unfold maxLen; omega) (by omega) (by simp; omega) (w3.heap.size + 1) (by simp) ?_
                intro g5 cap5 w5 hown5 hgrow5 hat5 hlt5
                have HF:=KX.out.more EX.out hw0 hnp hgp hpl hnl hgl hbp (by omega) hlw CA.out (e:=(key,x)) (v6:=.slice (some ⟨g5,0,none⟩) (acc.length+1) cap5) hgrow5 (fun q hq=>by
                 simp only[Value.ownBlock,Option.some.injEq] at hq
                 subst hq
                 rcases hat5 with h | h
                 · exact .inl h
                 · exact .inr (by simp;omega)) hown5
                have HF1:Hid (GKept w0 w bp (.slice va vm vc) (.slice (some ⟨g5,0,none⟩) (acc.length+1) cap5) (w5.setCell ⟨bp,0,none⟩ (.slice (some ⟨g5,0,none⟩) (acc.length+1) cap5))):=HF.1
                have HF2:Hid (GEnv (w5.setCell ⟨bp,0,none⟩ (.slice (some ⟨g5,0,none⟩) (acc.length+1) cap5)) bn bp bg mb (.slice (some ⟨g5,0,none⟩) (acc.length+1) cap5) (acc ++ [(key,x)]) lim):=HF.2
                have P5:w5.heap[bp]? = some (.cells #[.slice va vm vc] 54 (0,0)):=(hgrow5.block bp (by have:=lt_of_block E3.out.box;simp;omega) (fun e=>by have:=hvl.out _ e.symm;omega)).trans ((heap_alloc_old w3 _ (lt_of_block E3.out.box)).trans E3.out.box)
                have cb5:=(one_cell P5).1
                have fb5:=(one_cell P5).2 0
                have HQ5:Hid ((w5.setCell ⟨bp,0,none⟩ (.slice (some ⟨g5,0,none⟩) (acc.length+1) cap5)).heap[w1.heap.size]? = some (.cells #[.string ⟨t.toArray⟩,.int .i64 k,.string ⟨q.toArray⟩,.slice a1 ls.length c1,.string ⟨x.toArray⟩] 159 (0,0))):=(Below.heap_setCell _ _ _ _ (by simp only;omega)).trans ((hgrow5.block _ (by simp;omega) (fun e=>by have:=hvl.out _ e.symm;omega)).trans ((heap_alloc_old w3 _ (by omega)).trans Q3.out))
                have HV5:Hid (∀ b,(Value.slice (some ⟨g5,0,none⟩) (acc.length+1) cap5).ownBlock=some b→b≠w1.heap.size):=(fun b hb e=>by
                 simp only[Value.ownBlock,Option.some.injEq] at hb
                 subst hb
                 rcases hat5 with h | h
                 · have:=hvl.out _ h;omega
                 · (try simp at h);omega)
                clear hown5 hgrow5 hat5 P5 HF))
            all_goals
             go_wp2
             go_meet
             case rel=>exact⟨_,HFO,by rw[HON.out];exact HF2,HF1,HQ5,by rw[HON.out];simp;omega,HV5⟩
          · have HR:Hid (Lost res acc.length):=by
             refine .inl (HRES.out.trans (if_neg ?_))
             simp only[zb9,Bool.and_eq_true,Bool.or_eq_true,decide_eq_true_eq]
             exact fun h=>h.2.elim hx hpar
            have hpi:(full.length:Int) % 2=1:=by omega
            have hpd:((full.length:Int) % 2 == 0)=false:=by simp;omega
            have hpb:((full.length:Int) % 2 != 0)=true:=by simp;omega
            clear HRES hx
            go_wp2
            all_goals first | (exfalso;rename_i h9;rw[hxe] at h9;exact absurd h9 (by decide)) | skip
            go_ret
            exact .inr ⟨rfl,HR.out,KX.out.below⟩
       case rest =>
        obtain⟨v1,HFO,HE1,HK1,HH1,hl1,HV1⟩:=hcut
        obtain⟨own,hown⟩:∃ own,own=ownP full x:=⟨_,rfl⟩
        have HRK:Hid (res=(za2 (atF (zm ps) f) k full ls ls.length).map (own ++ ·)):=by rw[Hid,HRES.out,if_pos HFO.out,hown]
        rw[←hown] at HE1 hl1
        have HWX:Hid (w1.heap.size<wc.heap.size):=lt_of_block HH1.out
        obtain⟨hb,hhb⟩:∃ hb,hb=w1.heap.size:=⟨_,rfl⟩
        have HHB:Hid (w.heap.size≤hb):=by rw[Hid,hhb];exact hsw
        obtain⟨e0,e1,e2,e3,e4,_⟩:=zeh HH1.out
        rw[←hhb] at e0 e1 e2 e3 e4 HH1 HV1 ⊢
        clear hown HRES HFO EX KX QX cp n0 n1 n2 n3 n4 hszX HWX hhb
        go_wp2
        go_loopw [10,11,56] (fun _ _ i wr=>∃ (j:Nat) (v:Value) (l:List za),j≤ls.length∧i=.int .i64 (j:Int)∧Hid (za2 (atF (zm ps) f) k full ls j=some l)∧Hid (GEnv wr bn bp bg mb v (acc ++ own ++ l) lim)∧Hid (GKept w0 w bp (.slice va vm vc) v wr)∧Hid (wr.heap[hb]? = some (.cells #[.string ⟨t.toArray⟩,.int .i64 k,.string ⟨q.toArray⟩,.slice a1 ls.length c1,.string ⟨x.toArray⟩] 159 (0,0)))∧acc.length+own.length+l.length≤61∧Hid (∀ b,v.ownBlock=some b→b≠hb)) (fun _ _ i _=>ls.length - (intOf i).toNat)
        case atStart=>exact⟨0,v1,[],Nat.zero_le _,rfl,rfl,by rw[List.append_nil];exact HE1,HK1,HH1,by simpa using hl1,HV1⟩
        case round =>
         obtain⟨j,v,l,hj,rfl,HT,HEr,HKr,HHr,hlr,HVr⟩:=hrel
         clear e0 e1 e2 e3 e4
         obtain⟨e0,e1,e2,e3,e4,_⟩:=zeh HHr.out
         by_cases hlt:j<ls.length
         · have hji : (j : Int) < (ls.length : Int) := by omega
           have hj0:(0:Int)≤(j:Int):=by omega
           obtain⟨b2,off2,ha1,hcell⟩:=zf9 I0.out j hlt
           subst ha1
           have d1:=(HKr.out.below.cell (p:=⟨b2,off2+j,none⟩) (World.block_lt_of_cell? w0 _ (hcell j hlt))).trans (hcell j hlt)
           obtain⟨kid,hkid⟩:∃ kid,kid=ls.getD j []:=⟨_,rfl⟩
           rw[←hkid] at d1
           have hl16:ls.length≤16:=by
            rcases hkind with ⟨_,h2,_⟩ | ⟨_,_,_,y,h4,_⟩ | ⟨_,_,h3,_⟩
            · rw[h2];simp
            · rw[h4];simp
            · omega
           clear hcell
           by_cases hke:kid=[]
           · have HT1:Hid (za2 (atF (zm ps) f) k full ls (j+1)=some l):=zn6 HT.out (by rw[←hkid];exact hke)
             subst hke
             clear hkid HG HRK HT
             go_wp2
             first | (go_quiet (fail);go_wp2) | skip
             go_roundw
             case rel=>exact⟨j+1,v,l,by omega,by go_num,HT1,by first | exact HEr.out | exact HEr.out.drew | exact HEr.out.drewN,by first | exact HKr.out | exact HKr.out.drew | exact HKr.out.drewN,HHr,hlr,HVr⟩
             case measure=>simp[intOf];omega
           · have hke' : ls.getD j [] ≠ [] := by rw [← hkid]; exact hke
             have hkm:ls.getD j []∈ls:=by rw[List.getD_eq_getElem?_getD,List.getElem?_eq_getElem hlt];exact List.getElem_mem hlt
             have hks : kid.length ≤ 32 ∧ ls.length ≤ 16 ∧ path.length + 1 ≤ (zc7 k full j).length ∧ (zc7 k full j).length ≤ 25 ∧ zq (zc7 k full j) = true := by
              have hfu:=HFL.out
              rcases hkind with ⟨_,h2,_⟩ | ⟨h1,h2,_,y,h4,h5⟩ | ⟨h1,h2,h3,h4⟩
              · rw[h2] at hlt;simp at hlt
              · have hq1:q.length≠0:=fun e=>h2 (List.length_eq_zero_iff.1 e)
                have hst:zc7 k full j=full:=if_neg (by omega)
                rw[hst]
                refine⟨?_,by rw[h4];simp,by omega,by omega,HFN.out⟩
                rw[←hkid,h4] at hkm
                simp at hkm
                rw[hkm];omega
              · have hst:zc7 k full j=full ++ [UInt8.ofNat j]:=if_pos h1
                rw[h2] at hfu
                simp at hfu
                rw[hst]
                refine⟨?_,by omega,by simp;omega,by simp;omega,?_⟩
                · rcases h4 _ hkm with h | h
                  · exact absurd h hke'
                  · rw[hkid];omega
                · have h15:(UInt8.ofNat j).toNat≤15:=by rw[UInt8.toNat_ofNat'];omega
                  rw[zf6,HFN.out]
                  simp only[zq,List.all_cons,List.all_nil,Bool.and_true,Bool.true_and,decide_eq_true_eq]
                  exact h15
             obtain⟨hk1,hk2,hk3,hk4,hk5⟩:=hks
             obtain⟨nb,hnb⟩:∃ nb,nb=nibK k j:=⟨_,rfl⟩
             have KS:Hid (∀ (a:Option Addr) (m c:Nat) W,Calls Tryz.prog 104 #[.agg #[.int .i64 k,.string ⟨q.toArray⟩,.slice a m c,.string ⟨x.toArray⟩],.int .i64 (j:Int)] W fun e w'=>e=.returned (.string ⟨nb.toArray⟩)∧Below W.heap.size W w'):=fun a m c W=>by rw[hnb];exact za0c k _ a m c _ j W (by omega)
             obtain⟨more,hmore⟩:∃ more,more=zc7 k full j:=⟨_,rfl⟩
             have hcat2:(ByteArray.mk full.toArray ++ ByteArray.mk nb.toArray)=ByteArray.mk more.toArray:=by rw[hmore,←za0b,hnb];exact zks full _
             rw[←hmore] at hk3 hk4 hk5
             have hnbl:nb.length≤1:=by rw[hnb];unfold nibK;split <;> simp
             have hnol:¬ 9223372036854775807<full.length+nb.length:=by omega
             have KG:Hid (∀ W,Below w0.heap.size w0 W→GEnv W bn bp bg mb v (acc ++ own ++ l) lim→Calls Tryz.prog 101 #[.string ⟨kid.toArray⟩,.string ⟨more.toArray⟩,.pointer (some ⟨bn,0,none⟩),.pointer (some ⟨bp,0,none⟩),.pointer (some ⟨bg,0,none⟩)] W fun r w'=>zjj w0 W bn bp bg mb lim v (acc ++ own ++ l) (atF (zm ps) f kid more) r w'):=fun W hW hE=>HG.out kid more W v (acc ++ own ++ l) (by omega) (by omega) hk4 hk5 hW hE (by simp only[List.length_append];omega)
             have HLO:Hid (Lost (atF (zm ps) f kid more) (acc ++ own ++ l).length→Lost res acc.length):=fun hl=>by
              rw[HRK.out]
              refine zjh HT.out hlt hke' ?_
              rw[←hkid,←hmore]
              simpa only[List.length_append] using hl
             have HSO:Hid (∀ l5,atF (zm ps) f kid more=some l5→za2 (atF (zm ps) f) k full ls (j+1)=some (l ++ l5)):=fun l5 h5=>by
              rw[zg2 HT.out hke',←hkid,←hmore,h5];rfl
             have hkn:kid.isEmpty=false:=by cases kid with | nil=>exact absurd rfl hke | cons _ _=>rfl
             have KS1:=KS.out (some ⟨b2,off2,none⟩) ls.length c1 wr.drew
             have s1:=(one_cell HEr.out.self).1
             obtain⟨res5,hres5⟩:∃ r5,r5=atF (zm ps) f kid more:=⟨_,rfl⟩
             rw[←hres5] at KG HLO HSO
             have hhbr:=lt_of_block HHr.out
             clear hkid hke hke' hkm HG HRK HT hnb hmore KS hres5 hk1 hk3 hk4 hk5
             go_wp2_with fail
             go_region_law (first
              | (go_simp
                 go_at_call 104
                 refine KS1.mono ?_
                 rintro r w2 ⟨rfl,b2'⟩
                 have bb:Below wr.heap.size wr w2:=⟨b2'.os,b2'.tape,b2'.output,b2'.size,b2'.block⟩
                 have E2:Hid (GEnv w2 bn bp bg mb v (acc ++ own ++ l) lim):=HEr.out.below bb
                 have K2:Hid (GKept w0 w bp (.slice va vm vc) v w2):=HKr.out.on bb hw0
                 have H2:Hid (w2.heap[hb]? = some (.cells #[.string ⟨t.toArray⟩,.int .i64 k,.string ⟨q.toArray⟩,.slice (some ⟨b2,off2,none⟩) ls.length c1,.string ⟨x.toArray⟩] 159 (0,0))):=(bb.block _ hhbr).trans HHr.out
                 have s2:=(one_cell E2.out.self).1
                 have hb2:=lt_of_block H2.out
                 have KG2:=KG.out w2 K2.out.below E2.out
                 clear bb b2')
              | (go_simp
                 go_at_call 101
                 refine KG2.mono ?_
                 rintro r w5 h5
                 obtain⟨ok,rfl,hy5,hn5⟩:=zuz h5
                 have HY:Hid (ok=true→∃ l5 v',res5=some l5∧GEnv w5 bn bp bg mb v' (acc ++ own ++ l ++ l5) lim∧(acc ++ own ++ l).length+l5.length≤61∧GKept w0 w2 bp v v' w5):=hy5
                 have HN5:Hid (ok=false→Lost res5 (acc ++ own ++ l).length∧Below w0.heap.size w0 w5):=hn5
                 clear hy5 hn5 h5))
             all_goals
              cases ok with
              | true =>
                obtain⟨l5,v5,h51,h52,h53,h54⟩:=HY.out rfl
                have HT5:Hid (za2 (atF (zm ps) f) k full ls (j+1)=some (l ++ l5)):=HSO.out l5 h51
                have HE5:Hid (GEnv w5 bn bp bg mb v5 (acc ++ own ++ (l ++ l5)) lim):=(by rw[Hid,←List.append_assoc];exact h52)
                have HK5:Hid (GKept w0 w bp (.slice va vm vc) v5 w5):=K2.out.trans h54
                have HH5:Hid (w5.heap[hb]? = some (.cells #[.string ⟨t.toArray⟩,.int .i64 k,.string ⟨q.toArray⟩,.slice (some ⟨b2,off2,none⟩) ls.length c1,.string ⟨x.toArray⟩] 159 (0,0))):=(h54.kept hb hb2 (fun e=>by have:=lt_of_block E2.out.box;have:=HHB.out;omega) (fun e=>HVr.out hb e rfl)).trans H2.out
                have HV5:Hid (∀ b,v5.ownBlock=some b→b≠hb):=(fun b hbb e=>by
                 rcases h54.own b hbb with h | h
                 · exact HVr.out b h e
                 · omega)
                have hl5:acc.length+own.length+(l ++ l5).length≤61:=(by simp only[List.length_append] at h53 ⊢;omega)
                clear h51 h52 h53 h54 HY HN5 HSO HLO
                go_wp2
                go_roundw
                case rel=>exact⟨j+1,v5,l ++ l5,by omega,by go_num,HT5,by first | exact HE5.out | exact HE5.out.drew | exact HE5.out.drewN,by first | exact HK5.out | exact HK5.out.drew | exact HK5.out.drewN,HH5,hl5,HV5⟩
                case measure=>simp[intOf];omega
              | false =>
                obtain⟨h51,h52⟩:=HN5.out rfl
                have HR5:Hid (Lost res acc.length):=HLO.out h51
                have HB5:Hid (Below w0.heap.size w0 w5):=h52
                clear h51 h52 HY HN5 HSO HLO
                go_wp2
                go_ret
                exact .inr ⟨rfl,HR5.out,by first | exact HB5.out | exact HB5.out.drew | exact zx HB5.out⟩
         · obtain rfl:j=ls.length:=by omega
           have hji:¬ (ls.length:Int)<(ls.length:Int):=by omega
           have hres:res=some (own ++ l):=by rw[HRK.out,HT.out];rfl
           have HRS:Hid (res=some (own ++ l)):=hres
           clear hres
           go_wp2
           go_ret
           exact .inl ⟨own ++ l,v,rfl,HRS.out,by rw[←List.append_assoc];exact HEr.out,by simp only[List.length_append];omega,HKr.out⟩
     · have HR:Hid (Lost res acc.length):=by
        cases res with
        | none=>exact .inl rfl
        | some l=>exact .inr ⟨l,rfl,by omega⟩
       have hvi:¬ (vm:Int)≤60:=by omega
       have hvd:decide ((60:Int)<(vm:Int))=true:=by simp;omega
       have HE:Hid (GEnv w bn bp bg mb (.slice va vm vc) acc lim):=hE
       clear HRES hf24 hac hE hvm
       go_enter Tryz.func101,Tryz.ntmps101
       go_wp2_with fail
       refine K1.mono ?_
       rintro e w1 h1
       obtain⟨a1,c1,rfl,i1,b1⟩:=HAP.out _ _ _ h1
       have B1:Hid (∀ o,Below w0.heap.size w0 (w1.alloc o)):=fun o=>(hB.trans (b1.mono hB.size)).alloc (Nat.le_trans hB.size b1.size) o
       obtain⟨n0,n1,n2,n3,n4,_⟩:=zeh (heap_alloc_new w1 (.cells #[.string ⟨t.toArray⟩,.int .i64 k,.string ⟨q.toArray⟩,.slice a1 ls.length c1,.string ⟨x.toArray⟩] 159))
       have cp:=(one_cell (HE.out.below (b1.trans ((Below.refl _ _).alloc b1.size (.cells #[.string ⟨t.toArray⟩,.int .i64 k,.string ⟨q.toArray⟩,.slice a1 ls.length c1,.string ⟨x.toArray⟩] 159)))).box).1
       clear b1 K1 c0 h1 HAP i1 HE
       go_wp2
       go_ret
       exact .inr ⟨rfl,HR.out,B1.out _⟩
   · have HR:Hid (Lost res acc.length):=by
      refine .inl (HRES.out.trans (if_neg ?_))
      simp only[zb9,Bool.and_eq_true,decide_eq_true_eq]
      exact fun h=>hf24 h.1
     have hfi:¬ (full.length:Int)≤24:=by omega
     have hfd:decide ((24:Int)<(full.length:Int))=true:=by simp;omega
     clear HRES hf24
     go_enter Tryz.func101,Tryz.ntmps101
     go_wp2_with fail
     refine K1.mono ?_
     rintro e w1 h1
     obtain⟨a1,c1,rfl,i1,b1⟩:=HAP.out _ _ _ h1
     have B1:Hid (∀ o,Below w0.heap.size w0 (w1.alloc o)):=fun o=>(hB.trans (b1.mono hB.size)).alloc (Nat.le_trans hB.size b1.size) o
     obtain⟨n0,n1,n2,n3,n4,_⟩:=zeh (heap_alloc_new w1 (.cells #[.string ⟨t.toArray⟩,.int .i64 k,.string ⟨q.toArray⟩,.slice a1 ls.length c1,.string ⟨x.toArray⟩] 159))
     clear b1 K1 c0 h1 HAP i1
     go_wp2
     go_ret
     exact .inr ⟨rfl,HR.out,B1.out _⟩
def zi2 (w:World) (res:Option (List za)) (e:Ending) (w':World):Prop:=∃ (a:Option Addr) (m c:Nat),e=.returned (.tuple #[.slice a m c,.bool res.isSome])∧(res.isSome=true→∃ g,a=some ⟨g,0,none⟩)∧w'.ownsRow w.heap.size 103 2 (.slice a m c) (res.getD []).length (zb (res.getD []))∧Below w.heap.size w w'
theorem zdj {w w':World} {res:Option (List za)} (h:res=none) (hb:Below w.heap.size w w'):zi2 w res (.returned (.tuple #[.slice none 0 0,.bool false])) w':=by
 subst h
 exact⟨none,0,0,rfl,fun h=>by simp at h,World.ownsRow_nil _ _ _ _,hb⟩
theorem zq8 (a b:List UInt8):(ByteArray.mk a.toArray ++ ByteArray.mk b.toArray)=ByteArray.mk (a ++ b).toArray:=by
 have h:(ByteArray.mk a.toArray ++ ByteArray.mk b.toArray).data=(ByteArray.mk (a ++ b).toArray).data:=by simp
 exact ByteArray.ext h
theorem za0f (ps : List za) (hl : ps.length ≤ 1048576) (hm : ∀ p ∈ ps, p.1.length ≤ 1048576 ∧ p.2.length ≤ 1048576) (hst : zaa ps = true) :
 ∀ (f:Nat) (a:Option Addr) (cap:Nat) (h path:List UInt8) (w:World),26≤f+path.length→path.length≤48→zq path=true→IsPairs w a ps →
 Calls Tryz.prog 72 #[.slice a ps.length cap,.string ⟨h.toArray⟩,.string ⟨path.toArray⟩] w fun e w'=>zi2 w (zau (atF (zm ps) f h path)) e w':=by
 intro f
 induction f with
 | zero =>
   intro a cap h path w hf hp hn hs
   have KF:=zkr a cap ps h w hl hs
   have hp24:¬ (path.length:Int)≤24:=by omega
   have hpd:decide ((24:Int)<(path.length:Int))=true:=by simp;omega
   have hzp:(ByteArray.mk path.toArray).size=path.length:=by simp[ByteArray.size]
   have hres:zau (atF (zm ps) 0 h path)=none:=rfl
   have HR:Hid (zau (atF (zm ps) 0 h path)=none):=hres
   clear hres hs hm
   cases hfd:zm ps h with
   | none =>
     rw[hfd] at KF
     simp only[Option.getD_none,Option.isSome_none] at KF
     clear hfd
     go_enter Tryz.func72,Tryz.ntmps72
     go_wp2_with fail
     refine KF.mono ?_
     rintro e w1 ⟨rfl,b1⟩
     go_wp2
     go_ret2
     exact zdj HR.out b1
   | some t =>
     rw[hfd] at KF
     simp only[Option.getD_some,Option.isSome_some] at KF
     clear hfd
     go_enter Tryz.func72,Tryz.ntmps72
     go_wp2_with fail
     refine KF.mono ?_
     rintro e w1 ⟨rfl,b1⟩
     go_wp2
     go_ret2
     exact zdj HR.out b1
 | succ f ih =>
   intro a cap h path w hf hp hn hs
   have KF:=zkr a cap ps h w hl hs
   have hzp:(ByteArray.mk path.toArray).size=path.length:=by simp[ByteArray.size]
   have HS:Hid (∀ W,Below w.heap.size w W→IsPairs W a ps):=fun W hW=>hs.later hW
   have HM:Hid (∀ p∈ps,p.1.length≤1048576∧p.2.length≤1048576):=hm
   have IH:Hid (∀ (h path:List UInt8) (W:World),26≤f+path.length→path.length≤48→zq path=true→Below w.heap.size w W→Calls Tryz.prog 72 #[.slice a ps.length cap,.string ⟨h.toArray⟩,.string ⟨path.toArray⟩] W fun e w'=>zi2 W (zau (atF (zm ps) f h path)) e w'):=fun h path W h1 h2 h3 hW=>ih a cap h path W h1 h2 h3 (hs.later hW)
   clear hs hm ih
   cases hfd:zm ps h with
   | none =>
     have HR:Hid (zau (atF (zm ps) (f+1) h path)=none):=by rw[Hid,zh5 _ _ _ _ hfd];rfl
     rw[hfd] at KF
     simp only[Option.getD_none,Option.isSome_none] at KF
     clear hfd
     go_enter Tryz.func72,Tryz.ntmps72
     go_wp2_with fail
     refine KF.mono ?_
     rintro e w1 ⟨rfl,b1⟩
     go_wp2
     go_ret2
     exact zdj HR.out b1
   | some t =>
     have htl:=zuq ps HM.out h t hfd
     obtain⟨_,_,_,_,htr⟩:=zh9 ps hst h t hfd
     have hok:=zjm t htr
     have HKR:Hid (∀ W,Calls Tryz.prog 91 #[.string ⟨t.toArray⟩] W fun e w'=>zd3 W (za1 t) e w'):=fun W=>zr8 t W htl
     rw[hfd] at KF
     simp only[Option.getD_some,Option.isSome_some] at KF
     by_cases hp24:path.length≤24
     · have hp1 : (path.length : Int) ≤ 24 := by omega
       obtain⟨nd,hnd⟩:∃ nd,nd=nodeAt t:=⟨_,rfl⟩
       obtain⟨k,q,ls,x⟩:=nd
       have HRS:Hid (∀ r,atF (zm ps) (f+1) h path=r→r=if zb9 (path ++ q) x=true then (za2 (atF (zm ps) f) k (path ++ q) ls ls.length).map (ownP (path ++ q) x ++ ·) else none):=fun r hr=>by rw[←hr,zjg _ _ _ _ _ k q x ls hfd hnd.symm]
       have HRP:Hid (∀ W W' e,zd3 W (za1 t) e W'→∃ (a:Option Addr) (c:Nat),e=.returned (.tuple #[.agg #[.int .i64 k,.string ⟨q.toArray⟩,.slice a ls.length c,.string ⟨x.toArray⟩],.bool true])∧W'.ownsRow W.heap.size 9 1 (.slice a ls.length c) ls.length (zh ls)∧Below W.heap.size W W'):=fun W W' e hh=>by
        obtain⟨a9,c9,h1,h2,h3⟩:=zur hh
        rw[htr,←hnd] at h1
        rw[←hnd] at h2
        exact⟨a9,c9,h1,h2,h3⟩
       rw[←hnd] at hok
       have hparts:=zjn _ hok
       simp only at hparts
       obtain⟨hq24,hqn,hx60,hkind⟩:=hparts
       obtain⟨res,hres⟩:∃ res,res=zau (atF (zm ps) (f+1) h path):=⟨_,rfl⟩
       have HRES:Hid (res=zau (if zb9 (path ++ q) x=true then (za2 (atF (zm ps) f) k (path ++ q) ls ls.length).map (ownP (path ++ q) x ++ ·) else none)):=by rw[Hid,hres,HRS.out _ rfl]
       rw[←hres]
       obtain⟨full,hfull⟩:∃ full,full=path ++ q:=⟨_,rfl⟩
       have hcat:(ByteArray.mk path.toArray ++ ByteArray.mk q.toArray)=ByteArray.mk full.toArray:=by rw[hfull];exact zq8 path q
       have HFL:Hid (full.length=path.length+q.length):=by rw[Hid,hfull,List.length_append]
       have HFU:Hid (full=path ++ q):=hfull
       have hzf:(ByteArray.mk full.toArray).size=full.length:=by simp[ByteArray.size]
       rw[←hfull] at HRES
       have HFN:Hid (zq full=true):=by rw[Hid,hfull,zf6,hn,hqn];rfl
       clear hres HRS hfd hok htr hnd hfull hn hqn
       go_enter Tryz.func72,Tryz.ntmps72
       go_wp2_with fail
       refine KF.mono ?_
       rintro e w1 ⟨rfl,b1⟩
       go_wp2_with fail
       refine (HKR.out w1).mono ?_
       rintro e w2 h2
       obtain⟨a2,c2,rfl,o2,b2⟩:=HRP.out _ _ _ h2
       have hs12:=Nat.le_trans b1.size b2.size
       have BN:Hid (Below w.heap.size w (w2.alloc (.cells #[.int .i64 k,.string ⟨q.toArray⟩,.slice a2 ls.length c2,.string ⟨x.toArray⟩] 152))):=(b1.trans (b2.mono b1.size)).alloc hs12 _
       have QN:Hid ((w2.alloc (.cells #[.int .i64 k,.string ⟨q.toArray⟩,.slice a2 ls.length c2,.string ⟨x.toArray⟩] 152)).heap[w2.heap.size]? = some (.cells #[.int .i64 k,.string ⟨q.toArray⟩,.slice a2 ls.length c2,.string ⟨x.toArray⟩] 152 (0,0))):=heap_alloc_new w2 _
       have IN:Hid (zt (w2.alloc (.cells #[.int .i64 k,.string ⟨q.toArray⟩,.slice a2 ls.length c2,.string ⟨x.toArray⟩] 152)) a2 ls):=(zc8 (o2.alloc _)).2.2
       have hszN:(w2.alloc (.cells #[.int .i64 k,.string ⟨q.toArray⟩,.slice a2 ls.length c2,.string ⟨x.toArray⟩] 152)).heap.size=w2.heap.size+1:=by simp
       have BL:Hid (Below (w2.heap.size+1) (w2.alloc (.cells #[.int .i64 k,.string ⟨q.toArray⟩,.slice a2 ls.length c2,.string ⟨x.toArray⟩] 152)) ((w2.alloc (.cells #[.int .i64 k,.string ⟨q.toArray⟩,.slice a2 ls.length c2,.string ⟨x.toArray⟩] 152)).alloc (.cells #[] 103))):=by rw[Hid,←hszN];exact (Below.refl _ _).alloc (Nat.le_refl _) _
       have OL:Hid (((w2.alloc (.cells #[.int .i64 k,.string ⟨q.toArray⟩,.slice a2 ls.length c2,.string ⟨x.toArray⟩] 152)).alloc (.cells #[] 103)).ownsRow (w2.heap.size+1) 103 2 (.slice (some ⟨w2.heap.size+1,0,none⟩) 0 0) 0 []):=by
        have:=World.ownsRow_lit (e:=103) (size:=2) (w2.alloc (.cells #[.int .i64 k,.string ⟨q.toArray⟩,.slice a2 ls.length c2,.string ⟨x.toArray⟩] 152)) #[] 0 (base:=w2.heap.size+1) (by rw[hszN];exact Nat.le_refl _) (Nat.zero_le _) rfl
        rw[hszN] at this
        exact this
       have QL:((w2.alloc (.cells #[.int .i64 k,.string ⟨q.toArray⟩,.slice a2 ls.length c2,.string ⟨x.toArray⟩] 152)).alloc (.cells #[] 103)).heap[w2.heap.size]? = some (.cells #[.int .i64 k,.string ⟨q.toArray⟩,.slice a2 ls.length c2,.string ⟨x.toArray⟩] 152 (0,0)):=(Below.heap_alloc _ _ _ (by simp)).trans QN.out
       obtain⟨m0,m1,m2,m3,_⟩:=zi QL
       have HNF:Hid (x=[]→zb9 full x=false→za2 (atF (zm ps) f) k full ls ls.length=none):=fun hx hfo=>by
        have hbig:24<full.length:=by
         rw[hx] at hfo
         simp[zb9] at hfo
         omega
        rcases hkind with ⟨_,_,h3⟩ | ⟨_,_,_,y,rfl,hy⟩ | ⟨_,h2,_,_⟩
        · exact absurd hx h3
        · exact zuu _ _ _ _ _ hy hbig
        · have hfl:=HFL.out;rw[h2] at hfl;simp at hfl;omega
       clear QL o2 b1 b2 h2 KF HKR HRP
       go_upto_if 41 with fail
       go_cut [12] from 20 (fun v12 wx=>∃ (g3 c3:Nat),v12=.slice (some ⟨g3,0,none⟩) (ownP full x).length c3∧Hid (wx.ownsRow (w2.heap.size+1) 103 2 (.slice (some ⟨g3,0,none⟩) (ownP full x).length c3) (ownP full x).length (zb (ownP full x)))∧Hid (Below (w2.heap.size+1) (w2.alloc (.cells #[.int .i64 k,.string ⟨q.toArray⟩,.slice a2 ls.length c2,.string ⟨x.toArray⟩] 152)) wx)∧Hid (res=zau ((za2 (atF (zm ps) f) k full ls ls.length).map (ownP full x ++ ·))))
       case first =>
        by_cases hx:x=[]
        · subst hx
          have HZ:Hid (res=zau ((za2 (atF (zm ps) f) k full ls ls.length).map (ownP full [] ++ ·))):=by
           rw[Hid,HRES.out]
           by_cases hfo:zb9 full []=true
           · rw[if_pos hfo]
           · rw[if_neg hfo,HNF.out rfl (by simpa using hfo)];rfl
          clear HRES HNF
          go_wp2_with fail
          go_meet
          case rel=>exact⟨_,_,rfl,OL.out,BL.out,HZ.out⟩
        · have hxe : x.isEmpty = false := by cases x with | nil => exact absurd rfl hx | cons _ _ => rfl
          have hxn:(!x.isEmpty)=true:=by rw[hxe];rfl
          by_cases hpar:full.length % 2=0
          · by_cases hf24:full.length≤24
            · have HON:Hid (ownP full x=[(pack full,x)]):=if_neg hx
              have HZ:Hid (res=zau ((za2 (atF (zm ps) f) k full ls ls.length).map (ownP full x ++ ·))):=by
               rw[Hid,HRES.out,if_pos]
               simp[zb9,hf24,hpar]
              obtain⟨i0,hi0,hz0,hz1,hz2⟩:=info_parts info5
              obtain⟨j0,hj0,hy0,hy1,hy2⟩:=info_parts zhz
              obtain⟨key,hkey⟩:∃ key,key=pack full:=⟨_,rfl⟩
              rw[←hkey] at HON
              obtain⟨n,hn2⟩:∃ n,n=full.length / 2:=⟨_,rfl⟩
              obtain⟨t8,ht8⟩:∃ t8,t8=ByteArray.mk full.toArray:=⟨_,rfl⟩
              have hts:t8.size=full.length:=by rw[ht8];exact hzf
              have HTN:Hid (zq t8.data.toList=true):=by rw[Hid,ht8];exact HFN.out
              have HTK:Hid (pack (t8.data.toList.take (2*n))=key):=by rw[Hid,ht8,hkey,List.take_of_length_le (by simp;omega)]
              rw[←ht8] at hcat
              have hn3:t8.size≤2*n:=by omega
              have hn4:2*n≤t8.size:=by omega
              have ht24:(t8.size:Int)≤24:=by omega
              have htp:¬ (t8.size:Int) % 2=1:=by omega
              have htb:((t8.size:Int) % 2 == 1)=false:=by simp;omega
              have htd:decide ((24:Int)<(t8.size:Int))=false:=by simp;omega
              clear HRES HNF hkey ht8 hzf hn2 hpar hf24 hts
              go_wp2
              all_goals first | (exfalso;rename_i h9;rw[hxe] at h9;exact absurd h9 (by decide)) | skip
              simp only[hxn]
              go_loopw [14,15] (fun v i wr=>∃ m kk g cap:Nat,Hid (m=2*kk)∧kk≤n∧i=.int .i64 (m:Int)∧v=.slice (some ⟨g,0,none⟩) kk cap∧wr.ownsRow (w2.heap.size+2) 5 1 (.slice (some ⟨g,0,none⟩) kk cap) kk (ze (pack (t8.data.toList.take (2*kk))))∧Below (w2.heap.size+2) ((w2.alloc (.cells #[.int .i64 k,.string ⟨q.toArray⟩,.slice a2 ls.length c2,.string ⟨x.toArray⟩] 152)).alloc (.cells #[] 103)) wr) (fun _ i _=>t8.size - (intOf i).toNat)
              case atStart =>
               have hszL:((w2.alloc (.cells #[.int .i64 k,.string ⟨q.toArray⟩,.slice a2 ls.length c2,.string ⟨x.toArray⟩] 152)).alloc (.cells #[] 103)).heap.size=w2.heap.size+2:=by simp
               refine⟨0,0,w2.heap.size+2,0,rfl,Nat.zero_le _,rfl,rfl,?_,?_⟩
               · have:=World.ownsRow_lit (e:=5) (size:=1) ((w2.alloc (.cells #[.int .i64 k,.string ⟨q.toArray⟩,.slice a2 ls.length c2,.string ⟨x.toArray⟩] 152)).alloc (.cells #[] 103)) #[] 0 (base:=w2.heap.size+2) (by rw[hszL];exact Nat.le_refl _) (Nat.zero_le _) rfl
                 rw[hszL] at this
                 exact this
               · have:=(Below.refl ((w2.alloc (.cells #[.int .i64 k,.string ⟨q.toArray⟩,.slice a2 ls.length c2,.string ⟨x.toArray⟩] 152)).alloc (.cells #[] 103)).heap.size ((w2.alloc (.cells #[.int .i64 k,.string ⟨q.toArray⟩,.slice a2 ls.length c2,.string ⟨x.toArray⟩] 152)).alloc (.cells #[] 103))).alloc (Nat.le_refl _) (.cells #[] 5)
                 rw[hszL] at this
                 exact this
              case round =>
               obtain⟨m,k8,g,cap,HM,hk8,rfl,rfl,hown,hbel⟩:=hrel
               have hsz:w2.heap.size+2≤wr.heap.size:=by have:=hbel.size;simp at this;omega
               have hbg:=own_base hown
               have hm1:m≤2*k8:=Nat.le_of_eq HM.out
               have hm2:2*k8≤m:=Nat.le_of_eq HM.out.symm
               have hk0:(0:Int)≤(m:Int):=by omega
               have hk2:(0:Int)≤(m:Int)+1:=by omega
               clear m0 m1 m2 m3
               by_cases hlt:k8<n
               · have hk1:(m:Int)<(t8.size:Int):=by omega
                 have hk3:(m:Int)+1<(t8.size:Int):=by omega
                 have hmn:m<t8.size:=by omega
                 have hmn1:m+1<t8.size:=by omega
                 have hwr:IntKind.i64.wrap ((m:Int)+1)=(m:Int)+1:=zag _ (by omega) (by omega)
                 go_wp2_with fail
                 go_region_held3 (fun _=>True) (trivial)
                  ((refine step_append_lies _ (by rfl) _ _ _ (by rfl) (w2.heap.size+2) 5 i0 _ 1 1 Tryz.underlying150 hi0 hz0 hz1 hz2 rfl (by omega) (.slice (some ⟨g,0,none⟩) k8 cap) k8 _ (by rfl) ((hown.alloc _).drew) ⟨wr.heap.size,0,none⟩ 1 1 [.int .u8 (IntKind.u8.wrap (IntKind.u8.wrap (16*(t8[m].toNat:Int))+(t8[m+1].toNat:Int)))] (by rfl) (by rfl) (World.news_of_block (cs:=#[.int .u8 (IntKind.u8.wrap (IntKind.u8.wrap (16*(t8[m].toNat:Int))+(t8[m+1].toNat:Int)))]) (t:=5) (fr:=(0,0)) (heap_alloc_new wr _)) (by simp[Value.oneCell']) (by omega) (by unfold maxLen;omega) (by omega) (by simp;omega) (wr.heap.size+1) (by simp) ?_;intro g9 cap9 w9 hown9 hgrow hat hlt1))
                 all_goals
                  have hbel9:Below (w2.heap.size+2) ((w2.alloc (.cells #[.int .i64 k,.string ⟨q.toArray⟩,.slice a2 ls.length c2,.string ⟨x.toArray⟩] 152)).alloc (.cells #[] 103)) w9:=zel hbel hsz hbg hgrow
                  go_wp2
                  go_roundw
                  case rel=>exact⟨m+2,k8+1,g9,cap9,by rw[Hid,HM.out];omega,by omega,by go_num,rfl,by rw[zp4 t8 m k8 HM.out hmn1,zge,←zk4];exact hown9,hbel9⟩
                  case measure=>simp[intOf];omega
               · obtain rfl:k8=n:=by omega
                 rw[HTK.out] at hown
                 have hcv:=zd6 (P:=Tryz.prog) Tryz.underlying150 Tryz.underlying5 Tryz.underlying9 hown
                 have hkn:¬ (m:Int)<(t8.size:Int):=by omega
                 have hszL:((w2.alloc (.cells #[.int .i64 k,.string ⟨q.toArray⟩,.slice a2 ls.length c2,.string ⟨x.toArray⟩] 152)).alloc (.cells #[] 103)).heap.size=w2.heap.size+2:=by simp
                 have hbelL:Below ((w2.alloc (.cells #[.int .i64 k,.string ⟨q.toArray⟩,.slice a2 ls.length c2,.string ⟨x.toArray⟩] 152)).alloc (.cells #[] 103)).heap.size ((w2.alloc (.cells #[.int .i64 k,.string ⟨q.toArray⟩,.slice a2 ls.length c2,.string ⟨x.toArray⟩] 152)).alloc (.cells #[] 103)) wr:=by rw[hszL];exact hbel
                 have OW:Hid (wr.ownsRow (w2.heap.size+1) 103 2 (.slice (some ⟨w2.heap.size+1,0,none⟩) 0 0) 0 []):=zaj OL.out hbelL
                 have QW:wr.heap[w2.heap.size]? = some (.cells #[.int .i64 k,.string ⟨q.toArray⟩,.slice a2 ls.length c2,.string ⟨x.toArray⟩] 152 (0,0)):=(hbel.block _ (by omega)).trans ((Below.heap_alloc _ _ _ (by simp)).trans QN.out)
                 obtain⟨p0,p1,p2,p3,_⟩:=zi QW
                 have BW:Hid (Below (w2.heap.size+1) (w2.alloc (.cells #[.int .i64 k,.string ⟨q.toArray⟩,.slice a2 ls.length c2,.string ⟨x.toArray⟩] 152)) (wr.alloc (.cells #[.string ⟨key.toArray⟩,.string ⟨x.toArray⟩] 103))):=(BL.out.trans (hbel.mono (by omega))).alloc (by omega) _
                 clear hown QW hbelL
                 go_wp2_with (at_builtin;refine wpList_append_lies _ rfl _ _ 54 rfl (w2.heap.size+1) 103 j0 (.agg #[.string ⟨#[]⟩,.string ⟨#[]⟩]) 2 32 Tryz.underlying54 hj0 hy0 hy1 hy2 rfl (by decide) (.slice (some ⟨w2.heap.size+1,0,none⟩) 0 0) 0 _ rfl (OW.out.alloc _) ⟨wr.heap.size,0,none⟩ 1 1 [.string ⟨key.toArray⟩,.string ⟨x.toArray⟩] rfl rfl (World.news_of_block (cs:=#[.string ⟨key.toArray⟩,.string ⟨x.toArray⟩]) (t:=103) (fr:=(0,0)) (heap_alloc_new wr _)) (by simp[Value.oneCell']) (by omega) (by unfold maxLen;omega) (by omega) (by simp;omega) (wr.heap.size+1) (by simp) ?_)
                 intro g5 cap5 w5 hown5 hgrow5 hat5 hlt5
                 have B5:Hid (Below (w2.heap.size+1) (w2.alloc (.cells #[.int .i64 k,.string ⟨q.toArray⟩,.slice a2 ls.length c2,.string ⟨x.toArray⟩] 152)) w5):=BW.out.grown hgrow5 (by simp;omega) (by simp[Value.ownBlock])
                 go_wp2
                 go_meet
                 case rel=>exact⟨g5,cap5,by rw[HON.out];rfl,by rw[HON.out];exact hown5,B5,HZ⟩
            · have HN:Hid (res=none):=by
               rw[Hid,HRES.out,if_neg]
               · rfl
               · simp[zb9,hf24]
              have htb:((full.length:Int) % 2 == 1)=false:=by simp;omega
              have htp:¬ (full.length:Int) % 2=1:=by omega
              have hti:¬ (full.length:Int)≤24:=by omega
              have htd:decide ((24:Int)<(full.length:Int))=true:=by simp;omega
              have BX:=BN.out.trans (BL.out.mono (by omega))
              clear HRES HNF
              go_wp2
              all_goals first | (exfalso;rename_i h9;rw[hxe] at h9;exact absurd h9 (by decide)) | skip
              go_ret2
              exact zdj HN.out BX
          · have HN:Hid (res=none):=by
             rw[Hid,HRES.out,if_neg]
             · rfl
             · simp[zb9,hpar,hx]
            have htb:((full.length:Int) % 2 == 1)=true:=by simp;omega
            have htp:(full.length:Int) % 2=1:=by omega
            have BX:=BN.out.trans (BL.out.mono (by omega))
            clear HRES HNF
            go_wp2
            all_goals first | (exfalso;rename_i h9;rw[hxe] at h9;exact absurd h9 (by decide)) | skip
            go_ret2
            exact zdj HN.out BX
       case rest =>
        obtain⟨g3,c3,rfl,HO,HB,HZ⟩:=hcut
        obtain⟨own,hown⟩:∃ own,own=ownP full x:=⟨_,rfl⟩
        have hol:own.length≤1:=by rw[hown];exact zuw full x
        rw[←hown] at HO HZ ⊢
        obtain⟨j0,hj0,hy0,hy1,hy2⟩:=info_parts zhz
        have hl16:ls.length≤16:=by
         rcases hkind with ⟨_,h2,_⟩ | ⟨_,_,_,y,h4,_⟩ | ⟨_,_,h3,_⟩
         · rw[h2];simp
         · rw[h4];simp
         · omega
        clear hown HRES HNF BL OL m0 m1 m2 m3
        go_wp2
        go_loopw [12,16,17,18,19] (fun v12 v16 _ _ _ wr=>∃ (j:Nat) (l:List za) (g c n:Nat),j≤ls.length∧v16=.int .i64 (j:Int)∧v12=.slice (some ⟨g,0,none⟩) n c∧Hid (n=own.length+l.length)∧n≤60∧Hid (za2 (atF (zm ps) f) k full ls j=some l)∧Hid (wr.ownsRow (w2.heap.size+1) 103 2 (.slice (some ⟨g,0,none⟩) n c) n (zb (own ++ l)))∧Hid (Below (w2.heap.size+1) (w2.alloc (.cells #[.int .i64 k,.string ⟨q.toArray⟩,.slice a2 ls.length c2,.string ⟨x.toArray⟩] 152)) wr)) (fun _ v16 _ _ _ _=>ls.length - (intOf v16).toNat)
        case atStart=>exact⟨0,[],g3,c3,own.length,Nat.zero_le _,rfl,rfl,rfl,by omega,rfl,by rw[List.append_nil];exact HO,HB⟩
        case round =>
         obtain⟨j,l,g,c,n,hj,rfl,rfl,HN,hn60,HT,HOW,HBW⟩:=hrel
         have HSZ:Hid (w2.heap.size+1≤wr.heap.size):=by have:=HBW.out.size;rw[Hid];simp at this;omega
         have QW:wr.heap[w2.heap.size]? = some (.cells #[.int .i64 k,.string ⟨q.toArray⟩,.slice a2 ls.length c2,.string ⟨x.toArray⟩] 152 (0,0)):=(HBW.out.block _ (by omega)).trans QN.out
         obtain⟨p0,p1,p2,p3,_⟩:=zi QW
         clear QW
         by_cases hlt:j<ls.length
         · have hji : (j : Int) < (ls.length : Int) := by omega
           have hji0:(0:Int)≤(j:Int):=by omega
           obtain⟨b2,off2,ha2,hcell⟩:=zf9 IN.out j hlt
           subst ha2
           have d1:=(HBW.out.cell (p:=⟨b2,off2+j,none⟩) (by have:=World.block_lt_of_cell? _ _ (hcell j hlt);simpa using this)).trans (hcell j hlt)
           obtain⟨kid,hkid⟩:∃ kid,kid=ls.getD j []:=⟨_,rfl⟩
           rw[←hkid] at d1
           clear hcell
           by_cases hke:kid=[]
           · have HT1:Hid (za2 (atF (zm ps) f) k full ls (j+1)=some l):=zn6 HT.out (by rw[←hkid];exact hke)
             subst hke
             clear hkid HT HZ IH
             go_wp2
             go_roundw
             case rel=>exact⟨j+1,l,g,c,n,by omega,by go_num,rfl,HN,hn60,HT1,HOW,HBW⟩
             case measure=>simp[intOf];omega
           · have hke' : ls.getD j [] ≠ [] := by rw [← hkid]; exact hke
             have hkn:kid.isEmpty=false:=by cases kid with | nil=>exact absurd rfl hke | cons _ _=>rfl
             rcases hkind with ⟨_,h2,_⟩ | ⟨rfl,h2,_,_⟩ | ⟨rfl,rfl,_,_⟩
             · rw[h2] at hlt;simp at hlt
             · have hq1:q.length≠0:=fun e=>h2 (List.length_eq_zero_iff.1 e)
               have hfl:=HFL.out
               have hst:zc7 2 full j=full:=rfl
               obtain⟨r5,hr5⟩:∃ r5,r5=zau (atF (zm ps) f kid full):=⟨_,rfl⟩
               have HLO:Hid ((r5=none∨∃ l5,r5=some l5∧¬ n+l5.length≤60)→res=none):=fun hl=>by
                rw[HZ.out]
                refine lost_cap.1 (zjh HT.out hlt hke' ?_)
                rw[←hkid,hst]
                rcases hl with h | ⟨l5,h,hb⟩
                · exact zn9 (lost_cap.2 (hr5.symm.trans h)) (by omega)
                · rw[hr5] at h
                  exact .inr ⟨l5,(zdq h).1,by have:=HN.out;omega⟩
               have HSO:Hid (∀ l5,r5=some l5→za2 (atF (zm ps) f) 2 full ls (j+1)=some (l ++ l5)):=fun l5 h5=>by
                rw[hr5] at h5
                rw[zg2 HT.out hke',←hkid,hst,(zdq h5).1];rfl
               have HL5:Hid (∀ l5,r5=some l5→l5.length≤60):=fun l5 h5=>by
                rw[hr5] at h5
                exact (zdq h5).2
               have KI:=IH.out kid full wr (by omega) (by omega) HFN.out (BN.out.trans (HBW.out.mono (by omega)))
               rw[←hr5] at KI
               have BWX:Hid (Below (w2.heap.size+1) (w2.alloc (.cells #[.int .i64 2,.string ⟨q.toArray⟩,.slice (some ⟨b2,off2,none⟩) ls.length c2,.string ⟨x.toArray⟩] 152)) wr):=HBW
               have HSW:Hid (w2.heap.size+1≤wr.heap.size):=HSZ
               clear hkid hke hke' hr5 hst hfl hq1 h2 HT HZ IH
               go_wp2_with fail
               refine KI.mono ?_
               rintro e w5 ⟨a5,m5,c5,rfl,hg5,o5,b5⟩
               have B5:Hid (Below (w2.heap.size+1) (w2.alloc (.cells #[.int .i64 2,.string ⟨q.toArray⟩,.slice (some ⟨b2,off2,none⟩) ls.length c2,.string ⟨x.toArray⟩] 152)) w5):=BWX.out.trans (b5.mono HSW.out)
               have BF:Hid (Below w.heap.size w w5):=BN.out.trans (B5.out.mono (by omega))
               clear KI
               cases r5 with
               | none =>
                 have HNO:Hid (res=none):=HLO.out (.inl rfl)
                 clear o5 b5 HLO HSO hg5
                 go_wp2
                 go_ret2
                 exact zdj HNO.out BF.out
               | some l5 =>
                 obtain⟨g5,rfl⟩:=hg5 rfl
                 simp only[Option.getD_some,Option.isSome_some] at o5 ⊢
                 obtain⟨rfl,_,i5⟩:=zac o5
                 have H60:l5.length≤60:=HL5.out l5 rfl
                 by_cases hsum:n+l5.length≤60
                 · have hsi:(n:Int)+(l5.length:Int)≤60:=by omega
                   have hsd:decide ((60:Int)<(n:Int)+(l5.length:Int))=false:=by simp;omega
                   have OW5:Hid (w5.ownsRow (w2.heap.size+1) 103 2 (.slice (some ⟨g,0,none⟩) n c) n (zb (own ++ l))):=zaj HOW.out b5
                   have HT5:Hid (za2 (atF (zm ps) f) 2 full ls (j+1)=some (l ++ l5)):=HSO.out l5 rfl
                   have NEW5:Hid (∀ j u,(zb l5)[j]? = some u→w5.cell? ((⟨g5,0,none⟩:Addr).add j)=some u):=zl3 rfl o5
                   have S5:Hid (w2.heap.size+1≤w5.heap.size):=by have:=HSW.out;have:=b5.size;rw[Hid];omega
                   have hwl:IntKind.i64.wrap ((n:Int)+(l5.length:Int))=(n:Int)+(l5.length:Int):=zag _ (by omega) (by omega)
                   clear o5 b5 HLO HSO i5 hg5
                   go_wp2_with (at_builtin;refine wpList_append_own _ rfl _ _ 54 rfl (w2.heap.size+1) 103 j0 (.agg #[.string ⟨#[]⟩,.string ⟨#[]⟩]) 2 32 Tryz.underlying54 hj0 hy0 hy1 hy2 rfl (by decide) (.slice (some ⟨g,0,none⟩) n c) n _ rfl OW5.out ⟨g5,0,none⟩ l5.length c5 (zb l5) rfl (zbu l5) NEW5.out (pone l5) (by unfold maxLen;omega) (by omega) S5.out ?_)
                   intro v6 w6 hown6 hgrow6 hnil6
                   obtain⟨g6,c6,rfl⟩:=zhq hown6 (by first | exact hnil6 | exact fun h=>by have:=hnil6.1 h;simp at this)
                   have HB6:Hid (Below (w2.heap.size+1) (w2.alloc (.cells #[.int .i64 2,.string ⟨q.toArray⟩,.slice (some ⟨b2,off2,none⟩) ls.length c2,.string ⟨x.toArray⟩] 152)) w6):=B5.out.grown hgrow6 S5.out (fun q hq=>by have:=OW5.out.lt q hq;omega)
                   have HO6:Hid (w6.ownsRow (w2.heap.size+1) 103 2 (.slice (some ⟨g6,0,none⟩) (n+l5.length) c6) (n+l5.length) (zb (own ++ (l ++ l5)))):=by rw[Hid,←List.append_assoc,zc2];exact hown6
                   clear hown6 hgrow6 hnil6 NEW5
                   go_wp2
                   go_roundw
                   case rel=>exact⟨j+1,l ++ l5,g6,c6,n+l5.length,by omega,by go_num,rfl,by rw[Hid,HN.out,List.length_append];omega,hsum,HT5,HO6,HB6⟩
                   case measure=>simp[intOf];omega
                 · have hsi:¬ (n:Int)+(l5.length:Int)≤60:=by omega
                   have hsd:decide ((60:Int)<(n:Int)+(l5.length:Int))=true:=by simp;omega
                   have hwl:IntKind.i64.wrap ((n:Int)+(l5.length:Int))=(n:Int)+(l5.length:Int):=zag _ (by omega) (by omega)
                   have HNO:Hid (res=none):=HLO.out (.inr ⟨l5,rfl,hsum⟩)
                   clear o5 b5 HLO HSO hg5 i5
                   go_wp2
                   go_ret2
                   exact zdj HNO.out BF.out
             · have hfl:full.length=path.length:=by have:=HFL.out;simpa using this
               have hfu:=HFU.out
               rw[List.append_nil] at hfu
               obtain⟨y,hy⟩:∃ y,y=UInt8.ofNat j:=⟨_,rfl⟩
               have hy15:y.toNat=j:=by rw[hy,UInt8.toNat_ofNat'];omega
               have hjb:(j:Int)<256:=by omega
               obtain⟨more,hmore⟩:∃ more,more=full ++ [y]:=⟨_,rfl⟩
               have hst:zc7 3 full j=more:=by rw[hmore,hy];rfl
               have hml:more.length=full.length+1:=by rw[hmore];simp
               have HMN:Hid (zq more=true):=by
                rw[Hid,hmore,zf6,HFN.out]
                simp only[zq,List.all_cons,List.all_nil,Bool.and_true,Bool.true_and,decide_eq_true_eq]
                omega
               have hcv:=zcv [y] #[.int .u8 (j:Int)] (by simp only[ze,List.map_cons,List.map_nil];rw[hy15]) 1 rfl (by decide)
               have hcat3:(ByteArray.mk path.toArray ++ ByteArray.mk [y].toArray)=ByteArray.mk more.toArray:=by rw[hmore,hfu];exact zq8 path [y]
               obtain⟨r5,hr5⟩:∃ r5,r5=zau (atF (zm ps) f kid more):=⟨_,rfl⟩
               have HLO:Hid ((r5=none∨∃ l5,r5=some l5∧¬ n+l5.length≤60)→res=none):=fun hl=>by
                rw[HZ.out]
                refine lost_cap.1 (zjh HT.out hlt hke' ?_)
                rw[←hkid,hst]
                rcases hl with h | ⟨l5,h,hb⟩
                · exact zn9 (lost_cap.2 (hr5.symm.trans h)) (by omega)
                · rw[hr5] at h
                  exact .inr ⟨l5,(zdq h).1,by have:=HN.out;omega⟩
               have HSO:Hid (∀ l5,r5=some l5→za2 (atF (zm ps) f) 3 full ls (j+1)=some (l ++ l5)):=fun l5 h5=>by
                rw[hr5] at h5
                rw[zg2 HT.out hke',←hkid,hst,(zdq h5).1];rfl
               have HL5:Hid (∀ l5,r5=some l5→l5.length≤60):=fun l5 h5=>by
                rw[hr5] at h5
                exact (zdq h5).2
               have BWX:Hid (Below (w2.heap.size+1) (w2.alloc (.cells #[.int .i64 3,.string ⟨([]:List UInt8).toArray⟩,.slice (some ⟨b2,off2,none⟩) ls.length c2,.string ⟨x.toArray⟩] 152)) (wr.alloc (.cells #[.int .u8 (j:Int)] 5))):=HBW.out.alloc HSZ.out _
               have HSW:Hid (w2.heap.size+1≤(wr.alloc (.cells #[.int .u8 (j:Int)] 5)).heap.size):=by have:=HSZ.out;rw[Hid];simp;omega
               have KI:=IH.out kid more (wr.alloc (.cells #[.int .u8 (j:Int)] 5)) (by omega) (by omega) HMN.out (BN.out.trans (BWX.out.mono (by omega)))
               rw[←hr5] at KI
               have pk:=zi ((Below.heap_alloc wr (.cells #[.int .u8 (j:Int)] 5) _ (by have:=HSZ.out;omega)).trans ((HBW.out.block w2.heap.size (by omega)).trans QN.out))
               obtain⟨z0,z1,z2,z3,_⟩:=pk
               have d2:=((Below.refl wr.heap.size wr).alloc (Nat.le_refl _) (.cells #[.int .u8 (j:Int)] 5)).cell (p:=⟨b2,off2+j,none⟩) (World.block_lt_of_cell? _ _ d1)
               rw[d1] at d2
               have HOW0:=HOW
               have HOW:Hid ((wr.alloc (.cells #[.int .u8 (j:Int)] 5)).ownsRow (w2.heap.size+1) 103 2 (.slice (some ⟨g,0,none⟩) n c) n (zb (own ++ l))):=HOW0.out.alloc _
               clear hkid hke hke' hr5 hst hfl hfu HT HZ IH hmore hy HOW0 hml hy15
               go_wp2_with fail
               refine KI.mono ?_
               rintro e w5 ⟨a5,m5,c5,rfl,hg5,o5,b5⟩
               have B5:Hid (Below (w2.heap.size+1) (w2.alloc (.cells #[.int .i64 3,.string ⟨([]:List UInt8).toArray⟩,.slice (some ⟨b2,off2,none⟩) ls.length c2,.string ⟨x.toArray⟩] 152)) w5):=BWX.out.trans (b5.mono HSW.out)
               have BF:Hid (Below w.heap.size w w5):=BN.out.trans (B5.out.mono (by omega))
               clear KI
               cases r5 with
               | none =>
                 have HNO:Hid (res=none):=HLO.out (.inl rfl)
                 clear o5 b5 HLO HSO hg5
                 go_wp2
                 go_ret2
                 exact zdj HNO.out BF.out
               | some l5 =>
                 obtain⟨g5,rfl⟩:=hg5 rfl
                 simp only[Option.getD_some,Option.isSome_some] at o5 ⊢
                 obtain⟨rfl,_,i5⟩:=zac o5
                 have H60:l5.length≤60:=HL5.out l5 rfl
                 by_cases hsum:n+l5.length≤60
                 · have hsi:(n:Int)+(l5.length:Int)≤60:=by omega
                   have hsd:decide ((60:Int)<(n:Int)+(l5.length:Int))=false:=by simp;omega
                   have OW5:Hid (w5.ownsRow (w2.heap.size+1) 103 2 (.slice (some ⟨g,0,none⟩) n c) n (zb (own ++ l))):=zaj HOW.out b5
                   have HT5:Hid (za2 (atF (zm ps) f) 3 full ls (j+1)=some (l ++ l5)):=HSO.out l5 rfl
                   have NEW5:Hid (∀ j u,(zb l5)[j]? = some u→w5.cell? ((⟨g5,0,none⟩:Addr).add j)=some u):=zl3 rfl o5
                   have S5:Hid (w2.heap.size+1≤w5.heap.size):=by have:=HSW.out;have:=b5.size;rw[Hid];omega
                   have hwl:IntKind.i64.wrap ((n:Int)+(l5.length:Int))=(n:Int)+(l5.length:Int):=zag _ (by omega) (by omega)
                   clear o5 b5 HLO HSO i5 hg5
                   go_wp2_with (at_builtin;refine wpList_append_own _ rfl _ _ 54 rfl (w2.heap.size+1) 103 j0 (.agg #[.string ⟨#[]⟩,.string ⟨#[]⟩]) 2 32 Tryz.underlying54 hj0 hy0 hy1 hy2 rfl (by decide) (.slice (some ⟨g,0,none⟩) n c) n _ rfl OW5.out ⟨g5,0,none⟩ l5.length c5 (zb l5) rfl (zbu l5) NEW5.out (pone l5) (by unfold maxLen;omega) (by omega) S5.out ?_)
                   intro v6 w6 hown6 hgrow6 hnil6
                   obtain⟨g6,c6,rfl⟩:=zhq hown6 (by first | exact hnil6 | exact fun h=>by have:=hnil6.1 h;simp at this)
                   have HB6:Hid (Below (w2.heap.size+1) (w2.alloc (.cells #[.int .i64 3,.string ⟨([]:List UInt8).toArray⟩,.slice (some ⟨b2,off2,none⟩) ls.length c2,.string ⟨x.toArray⟩] 152)) w6):=B5.out.grown hgrow6 S5.out (fun q hq=>by have:=OW5.out.lt q hq;omega)
                   have HO6:Hid (w6.ownsRow (w2.heap.size+1) 103 2 (.slice (some ⟨g6,0,none⟩) (n+l5.length) c6) (n+l5.length) (zb (own ++ (l ++ l5)))):=by rw[Hid,←List.append_assoc,zc2];exact hown6
                   clear hown6 hgrow6 hnil6 NEW5
                   go_wp2
                   go_roundw
                   case rel=>exact⟨j+1,l ++ l5,g6,c6,n+l5.length,by omega,by go_num,rfl,by rw[Hid,HN.out,List.length_append];omega,hsum,HT5,HO6,HB6⟩
                   case measure=>simp[intOf];omega
                 · have hsi:¬ (n:Int)+(l5.length:Int)≤60:=by omega
                   have hsd:decide ((60:Int)<(n:Int)+(l5.length:Int))=true:=by simp;omega
                   have hwl:IntKind.i64.wrap ((n:Int)+(l5.length:Int))=(n:Int)+(l5.length:Int):=zag _ (by omega) (by omega)
                   have HNO:Hid (res=none):=HLO.out (.inr ⟨l5,rfl,hsum⟩)
                   clear o5 b5 HLO HSO hg5 i5
                   go_wp2
                   go_ret2
                   exact zdj HNO.out BF.out
         · obtain rfl:j=ls.length:=by omega
           have hji:¬ (ls.length:Int)<(ls.length:Int):=by omega
           have hres:res=some (own ++ l):=by
            rw[HZ.out,HT.out]
            exact zuv rfl (by rw[List.length_append];have:=HN.out;omega)
           have HF:Hid (Below w.heap.size w wr):=BN.out.trans (HBW.out.mono (by omega))
           have HOX:Hid (wr.ownsRow w.heap.size 103 2 (.slice (some ⟨g,0,none⟩) n c) n (zb (own ++ l))):=HOW.out.mono (by omega)
           have HRS:Hid (res=some (own ++ l)):=hres
           clear hres
           go_wp2
           go_ret2
           rw[HRS.out]
           exact⟨_,_,_,rfl,fun _=>⟨g,rfl⟩,by simp only[Option.getD_some,List.length_append];rw[←HN.out];exact HOX.out,HF.out⟩
     · have HR:Hid (zau (atF (zm ps) (f+1) h path)=none):=by rw[Hid,zn5 _ _ _ _ (by omega)];rfl
       have hp1:¬ (path.length:Int)≤24:=by omega
       clear hfd hok htr
       go_enter Tryz.func72,Tryz.ntmps72
       go_wp2_with fail
       refine KF.mono ?_
       rintro e w1 ⟨rfl,b1⟩
       go_wp2
       go_ret2
       exact zdj HR.out b1
theorem zq9 (w0:World) (bn bp bg mb lim:Nat) (ps:List za) (hst:zaa ps=true) (hM:HeldM w0 mb ps ps.length)
 (hbn:w0.heap.size≤bn) (hbp:w0.heap.size≤bp) (hbg:w0.heap.size≤bg) (hnp:bn≠bp) (hgp:bg≠bp) (hnl:bn<lim) (hpl:bp<lim) (hgl:bg<lim) (hlim:lim≤bn+1∨lim≤bp+1∨lim≤bg+1) :
 ∀ f,zh7 w0 bn bp bg mb lim ps f
 | 0=>fun h path w v acc hh hf hp=>by omega
 | f+1=>za0e w0 bn bp bg mb lim ps f hst hM hbn hbp hbg hnp hgp hnl hpl hgl hlim (zq9 w0 bn bp bg mb lim ps hst hM hbn hbp hbg hnp hgp hnl hpl hgl hlim f)
def zqa (w:World) (res:Option (List za)) (e:Ending) (w':World):Prop :=
 (∃ (l:List za) (a:Option Addr) (c:Nat),e=.returned (.tuple #[.slice a l.length c,.bool true])∧res=some l∧l.length≤61∧w'.ownsRow w.heap.size 103 2 (.slice a l.length c) l.length (zb l)∧Below w.heap.size w w')∨(e=.returned (.tuple #[.slice none 0 0,.bool false])∧Lost res 0∧Below w.heap.size w w')
theorem za0g (mb:Nat) (ps:List za) (root:List UInt8) (w:World) (hst:zaa ps=true) (hM:HeldM w mb ps ps.length) (hr:root.length≤1048576) :
 Calls Tryz.prog 80 #[.map (some mb),.string ⟨root.toArray⟩] w fun e w'=>zqa w (atF (zm ps) 26 root []) e w':=by
 obtain⟨fv,hfv⟩:∃ fv:Value,fv=.func (.func 101) #[] #[.pointer (some ⟨w.heap.size,0,none⟩),.pointer (some ⟨w.heap.size+1,0,none⟩),.pointer (some ⟨w.heap.size+2,0,none⟩)]:=⟨_,rfl⟩
 have hB:Below w.heap.size w (((w.alloc (.cells #[.map (some mb)] 128)).alloc (.cells #[.slice none 0 0] 54)).alloc (.cells #[fv] 163)):=(((Below.refl _ _).alloc (Nat.le_refl _) _).alloc (by simp) _).alloc (by simp;omega) _
 have n1:(((w.alloc (.cells #[.map (some mb)] 128)).alloc (.cells #[.slice none 0 0] 54)).alloc (.cells #[fv] 163)).heap[w.heap.size]? = some (.cells #[.map (some mb)] 128 (0,0)):=by
  rw[Below.heap_alloc _ _ _ (by simp;omega),Below.heap_alloc _ _ _ (by simp)];exact heap_alloc_new _ _
 have n2:(((w.alloc (.cells #[.map (some mb)] 128)).alloc (.cells #[.slice none 0 0] 54)).alloc (.cells #[fv] 163)).heap[w.heap.size+1]? = some (.cells #[.slice none 0 0] 54 (0,0)):=by
  rw[Below.heap_alloc _ _ _ (by simp)]
  have:=heap_alloc_new (w.alloc (.cells #[.map (some mb)] 128)) (.cells #[.slice none 0 0] 54)
  simpa using this
 have n3:(((w.alloc (.cells #[.map (some mb)] 128)).alloc (.cells #[.slice none 0 0] 54)).alloc (.cells #[fv] 163)).heap[w.heap.size+2]? = some (.cells #[fv] 163 (0,0)):=by
  have:=heap_alloc_new ((w.alloc (.cells #[.map (some mb)] 128)).alloc (.cells #[.slice none 0 0] 54)) (.cells #[fv] 163)
  simpa using this
 rw[hfv] at hB n1 n2 n3
 have c1:=(one_cell n1).1
 have c2:=(one_cell n2).1
 have c3:=(one_cell n3).1
 have KH:=zq9 w w.heap.size (w.heap.size+1) (w.heap.size+2) mb (w.heap.size+3) ps hst hM (Nat.le_refl _) (by omega) (by omega) (by omega) (by omega) (by omega) (by omega) (by omega) (by omega) 26 root [] _ (.slice none 0 0) [] hr (by simp) (by simp) rfl hB ⟨n1,n2,n3,World.ownsRow_nil _ _ _ _⟩ (by simp)
 obtain⟨res,hres⟩:∃ res,res=atF (zm ps) 26 root []:=⟨_,rfl⟩
 rw[←hres] at KH ⊢
 clear hfv hres hB n1 n2 n3 hM
 go_enter Tryz.func80,Tryz.ntmps80
 go_wp2_with fail
 with_reducible refine KH.mono ?_
 rintro r w3 h3
 clear KH c1 c2 c3
 rcases h3 with ⟨l,v',rfl,h1,h2,h3,h4⟩ | ⟨rfl,h1,h2⟩
 · have cb3:=(one_cell h2.box).1
   have hrow:=h2.row
   rw[List.nil_append] at hrow
   obtain⟨va,vm,vc,rfl⟩:=zfi hrow
   obtain⟨rfl,_,_⟩:=zac hrow
   have HO:Hid (w3.ownsRow w.heap.size 103 2 (.slice va l.length vc) l.length (zb l)):=hrow.mono (by omega)
   have HR:Hid (res=some l):=h1
   have HB:Hid (Below w.heap.size w w3):=h4.below
   have hl61:l.length≤61:=by simpa using h3
   clear h1 h2 h3 h4 hrow
   go_wp2
   first | (go_quiet (fail);go_wp2) | skip
   go_ret2
   exact .inl ⟨l,va,vc,rfl,HR.out,hl61,by first | exact HO.out | exact zg3 HO.out fun q _=>rfl,by first | exact HB.out | exact HB.out.drew | exact zx HB.out⟩
 · have HR:Hid (Lost res 0):=h1
   have HB:Hid (Below w.heap.size w w3):=h2
   clear h1 h2
   go_wp2
   first | (go_quiet (fail);go_wp2) | skip
   go_ret2
   exact .inr ⟨rfl,HR.out,by first | exact HB.out | exact HB.out.drew | exact zx HB.out⟩
def zdw (w:World) (res:Option (List za)) (e:Ending) (w':World):Prop:=∃ (a:Option Addr) (m c:Nat),e=.returned (.tuple #[.slice a m c,.bool res.isSome])∧w'.ownsRow w.heap.size 103 2 (.slice a m c) (res.getD []).length (zb (res.getD []))∧Below w.heap.size w w'
theorem zca {w w':World} {res:Option (List za)} (h:res=none) (hb:Below w.heap.size w w'):zdw w res (.returned (.tuple #[.slice none 0 0,.bool false])) w':=by
 subst h
 exact⟨none,0,0,rfl,World.ownsRow_nil _ _ _ _,hb⟩
theorem zqb {w w':World} {res:Option (List za)} (h:res=some []) (hb:Below w.heap.size w w'):zdw w res (.returned (.tuple #[.slice none 0 0,.bool true])) w':=by
 subst h
 exact⟨none,0,0,rfl,World.ownsRow_nil _ _ _ _,hb⟩
theorem zkt (ps:List za) (hst:zaa ps=true):∀ h t,zm ps h=some t→(nodeAt t).ok=true:=fun h t hf=>by
 obtain⟨_,_,_,_,htr⟩:=zh9 ps hst h t hf
 exact zjm t htr
theorem za0h (a:Option Addr) (cap:Nat) (ps:List za) (root:List UInt8) (w:World) (hT:Tab w) (hl:ps.length≤1048576) (hm:∀ p∈ps,p.1.length≤1048576∧p.2.length≤1048576) (hs:IsPairs w a ps) (hr:root.length≤1048576) :
 Calls Tryz.prog 56 #[.slice a ps.length cap,.string ⟨root.toArray⟩] w fun e w'=>zdw w (za5 ps root) e w':=by
 have K:=zvb a cap ps w hT hl hm hs
 have HT:Hid (Tab w):=hT
 by_cases hok:zaa ps=true
 · rw [hok] at K
   obtain⟨em,hem⟩:∃ em,em=emptyL:=⟨_,rfl⟩
   have KE:Hid (∀ W,Tab W→_):=fun W h=>zlf W h
   rw[←hem] at KE
   clear hs hm hT
   by_cases he:root=em
   · have HR:Hid (za5 ps root=some []):=znb hok (he.trans hem)
     obtain⟨res,hres⟩:∃ res,res=za5 ps root:=⟨_,rfl⟩
     rw[←hres] at HR ⊢
     subst he
     clear hres hem
     go_enter Tryz.func56,Tryz.ntmps56
     go_wp2_with fail
     refine K.mono ?_
     rintro e w1 ⟨mb,rfl,hM,hmb,b1⟩
     have K2:=KE.out w1 (HT.out.later b1)
     go_wp2_with fail
     refine K2.mono ?_
     rintro e w2 ⟨rfl,b2⟩
     have B2:=b1.trans (b2.mono b1.size)
     go_wp2
     go_ret2
     exact zqb HR.out B2
   · have heb:(root == em)=false:=by rw[beq_eq_false_iff_ne];exact he
     have he':¬ root=emptyL:=fun e=>he (e.trans hem.symm)
     have HLO:Hid (Lost (atF (zm ps) 26 root []) 0→za5 ps root=none):=fun h=>znc hok he' h
     have HSO:Hid (∀ l,atF (zm ps) 26 root []=some l→za5 ps root=if zr l=true∧zae l=root then some l else none):=fun l h=>znd hok he' h
     have HSM:Hid (∀ l,atF (zm ps) 26 root []=some l→∀ e∈l,e.1.length≤1048576∧e.2.length≤1048576):=fun l h e hel=>by
      have:=zh6 _ (zkt ps hok) 26 root [] l h e hel
      omega
     have KP:Hid (∀ mb W,HeldM W mb ps ps.length→Calls Tryz.prog 80 #[.map (some mb),.string ⟨root.toArray⟩] W fun e w'=>zqa W (atF (zm ps) 26 root []) e w'):=fun mb W hM=>za0g mb ps root W hok hM hr
     obtain⟨rp,hrp⟩:∃ rp,rp=za5 ps root:=⟨_,rfl⟩
     obtain⟨ra,hra⟩:∃ ra,ra=atF (zm ps) 26 root []:=⟨_,rfl⟩
     rw[←hrp] at HLO HSO ⊢
     rw[←hra] at HLO HSO HSM KP
     clear hrp hra he he' hem
     go_enter Tryz.func56,Tryz.ntmps56
     go_wp2_with fail
     refine K.mono ?_
     rintro e w1 ⟨mb,rfl,hM,hmb,b1⟩
     have K2:=KE.out w1 (HT.out.later b1)
     have HM1:Hid (HeldM w1 mb ps ps.length):=hM
     clear hM K
     go_wp2_with fail
     refine K2.mono ?_
     rintro e w2 ⟨rfl,b2⟩
     have B2:=b1.trans (b2.mono b1.size)
     have K3:=KP.out mb w2 (HM1.out.later b2)
     clear K2 KP HM1 b1 b2
     go_wp2_with fail
     refine K3.mono ?_
     rintro e w3 h3
     clear K3
     rcases h3 with ⟨l,a3,c3,rfl,h31,h32,h33,b3⟩ | ⟨rfl,h31,b3⟩
     · have B3:=B2.trans (b3.mono B2.size)
       have HR:Hid (rp=if zr l=true∧zae l=root then some l else none):=HSO.out l h31
       have HO3:Hid (w3.ownsRow w.heap.size 103 2 (.slice a3 l.length c3) l.length (zb l)):=h33.mono B2.size
       have K4:=zxi a3 c3 l w3 (by omega) (HSM.out l h31) (zac h33).2.2 (HT.out.later B3)
       obtain⟨rr,hrr⟩:∃ rr,rr=zae l:=⟨_,rfl⟩
       obtain⟨ro,hro⟩:∃ ro,ro=zr l:=⟨_,rfl⟩
       rw[←hrr,←hro] at K4 HR
       clear h31 h33 HLO HSO HSM b3 B2 hrr hro
       go_wp2_with fail
       refine K4.mono ?_
       rintro e w4 ⟨rfl,b4⟩
       have B4:=B3.trans (b4.mono B3.size)
       have HO4:Hid (w4.ownsRow w.heap.size 103 2 (.slice a3 l.length c3) l.length (zb l)):=zaj HO3.out b4
       clear K4 b4 B3 HO3
       cases ro with
       | false =>
         have HN:Hid (rp=none):=HR.out.trans (if_neg (fun h=>by simp at h))
         clear HR
         go_wp2
         go_ret2
         exact zca HN.out B4
       | true =>
         by_cases hrr:rr=root
         · have HN:Hid (rp=some l):=HR.out.trans (if_pos ⟨rfl,hrr⟩)
           clear HR
           subst hrr
           go_wp2
           go_ret2
           rw[HN.out]
           exact⟨a3,_,c3,rfl,HO4.out,B4⟩
         · have HN:Hid (rp=none):=HR.out.trans (if_neg (fun h=>hrr h.2))
           have hrb:(rr == root)=false:=by rw[beq_eq_false_iff_ne];exact hrr
           clear HR
           go_wp2
           go_ret2
           exact zca HN.out B4
     · have B3:=B2.trans (b3.mono B2.size)
       have HN:Hid (rp=none):=HLO.out h31
       clear h31 HLO HSO HSM
       go_wp2
       go_ret2
       exact zca HN.out B3
 · have HN:Hid (za5 ps root=none):=zna hok
   have hok':zaa ps=false:=by simpa using hok
   rw[hok'] at K
   obtain⟨res,hres⟩:∃ res,res=za5 ps root:=⟨_,rfl⟩
   rw[←hres] at HN ⊢
   clear hs hm hT hok hok' hres
   go_enter Tryz.func56,Tryz.ntmps56
   go_wp2_with fail
   refine K.mono ?_
   rintro e w1 ⟨rfl,b1⟩
   go_wp2
   go_ret2
   exact zca HN.out b1
theorem zqc (a:Option Addr) (cap:Nat) (ps:List za) (root:List UInt8) (w:World) (hl:ps.length≤1048576) (hm:∀ p∈ps,p.1.length≤1048576∧p.2.length≤1048576) (hs:IsPairs w a ps) :
 Calls Tryz.prog 43 #[.slice a ps.length cap,.string ⟨root.toArray⟩] w fun e w'=>zdw w (za5 ps root) e w':=by
 have K:=za3f a cap ps w hl hm hs
 have HS:Hid (∀ W,Below w.heap.size w W→IsPairs W a ps):=fun W hW=>hs.later hW
 by_cases hok:zaa ps=true
 · rw [hok] at K
   obtain⟨em,hem⟩:∃ em,em=emptyL:=⟨_,rfl⟩
   have KE:Hid (∀ W,_):=fun W=>zlg W
   rw[←hem] at KE
   by_cases he:root=em
   · have HR:Hid (za5 ps root=some []):=znb hok (he.trans hem)
     obtain⟨res,hres⟩:∃ res,res=za5 ps root:=⟨_,rfl⟩
     rw[←hres] at HR ⊢
     subst he
     clear hres hem hs hm
     go_enter Tryz.func43,Tryz.ntmps43
     go_wp2_with fail
     refine K.mono ?_
     rintro e w1 ⟨rfl,b1⟩
     go_wp2_with fail
     refine (KE.out w1).mono ?_
     rintro e w2 ⟨rfl,b2⟩
     have B2:=b1.trans (b2.mono b1.size)
     go_wp2
     go_ret2
     exact zqb HR.out B2
   · have heb:(root == em)=false:=by rw[beq_eq_false_iff_ne];exact he
     have he':¬ root=emptyL:=fun e=>he (e.trans hem.symm)
     have HLO:Hid (zau (atF (zm ps) 26 root [])=none→za5 ps root=none):=fun h=>znc hok he' (lost_cap.2 h)
     have HSO:Hid (∀ l,zau (atF (zm ps) 26 root [])=some l→za5 ps root=if zr l=true∧zae l=root then some l else none):=fun l h=>znd hok he' (zdq h).1
     have HSM:Hid (∀ l,zau (atF (zm ps) 26 root [])=some l→l.length≤60∧∀ e∈l,e.1.length≤1048576∧e.2.length≤1048576):=fun l h=>⟨(zdq h).2,fun e hel=>by
      have:=zh6 _ (zkt ps hok) 26 root [] l (zdq h).1 e hel
      omega⟩
     have KP:Hid (∀ W,Below w.heap.size w W→Calls Tryz.prog 72 #[.slice a ps.length cap,.string ⟨root.toArray⟩,.string ⟨#[]⟩] W fun e w'=>zi2 W (zau (atF (zm ps) 26 root [])) e w'):=fun W hW=>za0f ps hl hm hok 26 a cap root [] W (by simp) (by simp) rfl (hs.later hW)
     obtain⟨rp,hrp⟩:∃ rp,rp=za5 ps root:=⟨_,rfl⟩
     obtain⟨ra,hra⟩:∃ ra,ra=zau (atF (zm ps) 26 root []):=⟨_,rfl⟩
     rw[←hrp] at HLO HSO ⊢
     rw[←hra] at HLO HSO HSM KP
     clear hrp hra he he' hem hs hm
     go_enter Tryz.func43,Tryz.ntmps43
     go_wp2_with fail
     refine K.mono ?_
     rintro e w1 ⟨rfl,b1⟩
     go_wp2_with fail
     refine (KE.out w1).mono ?_
     rintro e w2 ⟨rfl,b2⟩
     have B2:=b1.trans (b2.mono b1.size)
     have K3:=KP.out w2 B2
     clear KE K KP b1 b2
     go_wp2_with fail
     refine K3.mono ?_
     rintro e w3 ⟨a3,m3,c3,rfl,_,o3,b3⟩
     have B3:=B2.trans (b3.mono B2.size)
     clear K3
     cases ra with
     | none =>
       have HN:Hid (rp=none):=HLO.out rfl
       clear o3 b3 HLO HSO HSM
       go_wp2
       go_ret2
       exact zca HN.out B3
     | some l =>
       simp only[Option.getD_some,Option.isSome_some] at o3 ⊢
       obtain⟨rfl,_,i3⟩:=zac o3
       have HR:Hid (rp=if zr l=true∧zae l=root then some l else none):=HSO.out l rfl
       obtain⟨h60,hsm⟩:=HSM.out l rfl
       have HO3:Hid (w3.ownsRow w.heap.size 103 2 (.slice a3 l.length c3) l.length (zb l)):=o3.mono B2.size
       have K4:=zi1 a3 c3 l w3 (by omega) hsm i3
       by_cases hpo:za3 l=true
       · rw [hpo] at K4
         have KM:Hid (∀ W,IsPairs W a3 l→_):=fun W hW=>zlc a3 c3 l W (zet l hpo) hW
         have I3:Hid (∀ W,Below w3.heap.size w3 W→IsPairs W a3 l):=fun W hW=>i3.later hW
         have HRO:Hid (zr l=zah (allL l)∧(zah (allL l)=true→zae l=zcb (allL l))):=⟨by simp[zr,hpo],fun h=>by simp[zae,zr,hpo,h]⟩
         obtain⟨mo,hmo⟩:∃ mo,mo=zah (allL l):=⟨_,rfl⟩
         obtain⟨ro,hro⟩:∃ ro,ro=zcb (allL l):=⟨_,rfl⟩
         rw[←hmo,←hro] at KM HRO
         clear o3 b3 HLO HSO HSM hsm i3 B2 hmo hro hpo
         go_wp2_with fail
         refine K4.mono ?_
         rintro e w4 ⟨rfl,b4⟩
         have B4:=B3.trans (b4.mono B3.size)
         have HO4:Hid (w4.ownsRow w.heap.size 103 2 (.slice a3 l.length c3) l.length (zb l)):=zaj HO3.out b4
         have K5:=KM.out w4 (I3.out w4 b4)
         clear K4 KM HO3 b4 I3 B3
         cases mo with
         | false =>
           have HN:Hid (rp=none):=HR.out.trans (if_neg (fun h=>by rw[HRO.out.1] at h;simp at h))
           simp only[Bool.false_eq_true,if_false] at K5
           clear HR HRO
           go_wp2_with fail
           refine K5.mono ?_
           rintro e w5 ⟨a5,m5,c5,rfl,_,b5⟩
           have B5:=B4.trans (b5.mono B4.size)
           go_wp2
           go_ret2
           exact zca HN.out B5
         | true =>
           simp only[if_true] at K5
           by_cases hrr:ro=root
           · have HN:Hid (rp=some l):=HR.out.trans (if_pos ⟨HRO.out.1,(HRO.out.2 rfl).trans hrr⟩)
             clear HR HRO
             subst hrr
             go_wp2_with fail
             refine K5.mono ?_
             rintro e w5 ⟨a5,m5,c5,rfl,_,b5⟩
             have B5:=B4.trans (b5.mono B4.size)
             have HO5:Hid (w5.ownsRow w.heap.size 103 2 (.slice a3 l.length c3) l.length (zb l)):=zaj HO4.out b5
             go_wp2
             go_ret2
             rw[HN.out]
             exact⟨a3,_,c3,rfl,HO5.out,B5⟩
           · have HN:Hid (rp=none):=HR.out.trans (if_neg (fun h=>hrr ((HRO.out.2 rfl).symm.trans h.2)))
             have hrb:(ro == root)=false:=by rw[beq_eq_false_iff_ne];exact hrr
             clear HR HRO
             go_wp2_with fail
             refine K5.mono ?_
             rintro e w5 ⟨a5,m5,c5,rfl,_,b5⟩
             have B5:=B4.trans (b5.mono B4.size)
             go_wp2
             go_ret2
             exact zca HN.out B5
       · have hpo':za3 l=false:=by simpa using hpo
         rw[hpo'] at K4
         have HN:Hid (rp=none):=HR.out.trans (if_neg (fun h=>by have:=h.1;simp[zr,hpo'] at this))
         clear o3 b3 HLO HSO HSM hsm i3 B2 hpo hpo' HR
         go_wp2_with fail
         refine K4.mono ?_
         rintro e w4 ⟨rfl,b4⟩
         have B4:=B3.trans (b4.mono B3.size)
         go_wp2
         go_ret2
         exact zca HN.out B4
 · have HN:Hid (za5 ps root=none):=zna hok
   have hok':zaa ps=false:=by simpa using hok
   rw[hok'] at K
   obtain⟨res,hres⟩:∃ res,res=za5 ps root:=⟨_,rfl⟩
   rw[←hres] at HN ⊢
   clear hs hm hok hok' hres
   go_enter Tryz.func43,Tryz.ntmps43
   go_wp2_with fail
   refine K.mono ?_
   rintro e w1 ⟨rfl,b1⟩
   go_wp2
   go_ret2
   exact zca HN.out b1
def repR (ix:Int) (root:List UInt8) (ps:List za) (ss:List zg):Option (List za) :=
 if (0≤ix∧ix≤1000000000000)∧zav ss=true then (za5 ps root).bind fun l=>if zr l=true∧zy l=ps then some l else none else none
theorem zku {ix:Int} {root:List UInt8} {ps:List za} {ss:List zg} (h:¬ ((0≤ix∧ix≤1000000000000)∧zav ss=true)):repR ix root ps ss=none:=by unfold repR;rw[if_neg h]
theorem zkv {ix:Int} {root:List UInt8} {ps:List za} {ss:List zg} (h:za5 ps root=none):repR ix root ps ss=none:=by unfold repR;rw[h];split <;> rfl
theorem zkw {ix:Int} {root:List UInt8} {ps l:List za} {ss:List zg} (h:(0≤ix∧ix≤1000000000000)∧zav ss=true) (hp:za5 ps root=some l):repR ix root ps ss=if zr l=true∧zy l=ps then some l else none:=by unfold repR;rw[if_pos h,hp];rfl
theorem zkx {ix:Int} {root:List UInt8} {ps l:List za} {ss:List zg} (h:repR ix root ps ss=some l):((0≤ix∧ix≤1000000000000)∧zav ss=true)∧za5 ps root=some l∧zr l=true∧zy l=ps:=by
 by_cases h0:(0≤ix∧ix≤1000000000000)∧zav ss=true
 · cases hp:za5 ps root with
   | none=>rw[zkv hp] at h;cases h
   | some l' =>
     rw[zkw h0 hp] at h
     split at h
     · next hh=>cases h;exact⟨h0,rfl,hh⟩
     · cases h
 · rw[zku h0] at h;cases h
theorem zi3 {ps:List za} {root:List UInt8} {l:List za} (h:za5 ps root=some l):l.length≤60∧∀ p∈l,p.1.length≤1048576∧p.2.length≤1048576:=by
 have h60:=zux (ps:=ps) (root:=root)
 rw[h] at h60
 refine⟨h60,?_⟩
 unfold za5 at h
 split at h
 · split at h
   · cases h;simp
   · cases ha:atF (zm ps) 26 root [] with
     | none=>rw[ha] at h;cases h
     | some l' =>
       rw[ha] at h
       simp only[Option.bind_some] at h
       split at h
       · next hh =>
         cases h
         intro p hp
         have:=zh6 _ (zkt ps (by assumption)) 26 root [] l ha p hp
         omega
       · cases h
 · cases h
theorem za0i (ix:Int) (root:List UInt8) (a:Option Addr) (cap:Nat) (ps:List za) (c:Option Addr) (cap2:Nat) (ss:List zg) (w:World) (hT:Tab w) (hr:root.length≤1048576) (hl:ps.length≤1048576) (hm:∀ p∈ps,p.1.length≤1048576∧p.2.length≤1048576) (hs:IsPairs w a ps) (hl2:ss.length≤1048576) (hs2:IsSess w c ss) :
 Calls Tryz.prog 23 #[.agg #[.int .i64 ix,.string ⟨root.toArray⟩,.slice a ps.length cap,.slice c ss.length cap2]] w fun e w'=>zdw w (repR ix root ps ss) e w':=by
 have B0:Below w.heap.size w (w.alloc (.cells #[.int .i64 ix,.string ⟨root.toArray⟩,.slice a ps.length cap,.slice c ss.length cap2] 34)):=(Below.refl _ _).alloc (Nat.le_refl _) _
 have H0:=heap_alloc_new w (.cells #[.int .i64 ix,.string ⟨root.toArray⟩,.slice a ps.length cap,.slice c ss.length cap2] 34)
 have HH0:Hid (_=_):=H0
 obtain⟨p0,p1,p2,p3,_⟩:=zj H0
 have HT:Hid (Tab w):=hT
 have HS:Hid (∀ W,Below w.heap.size w W→IsPairs W a ps):=fun W hW=>hs.later hW
 have K1:=za1g c cap2 ss _ hl2 (hs2.later B0)
 have HK2:Hid (∀ W,Tab W→Below w.heap.size w W→Calls Tryz.prog 56 #[.slice a ps.length cap,.string ⟨root.toArray⟩] W fun e w'=>zdw W (za5 ps root) e w'):=fun W hT hW=>za0h a cap ps root W hT hl hm (hs.later hW) hr
 have HNO:Hid (¬ ((0≤ix∧ix≤1000000000000)∧zav ss=true)→repR ix root ps ss=none):=zku
 have HNE:Hid (za5 ps root=none→repR ix root ps ss=none):=zkv
 have HSO:Hid (∀ l,(0≤ix∧ix≤1000000000000)∧zav ss=true→za5 ps root=some l→repR ix root ps ss=if zr l=true∧zy l=ps then some l else none):=fun l h1 h2=>zkw h1 h2
 have HFI:Hid (∀ l,za5 ps root=some l→l.length≤60∧∀ p∈l,p.1.length≤1048576∧p.2.length≤1048576):=fun l h=>zi3 h
 obtain⟨rp,hrp⟩:∃ rp,rp=repR ix root ps ss:=⟨_,rfl⟩
 obtain⟨ra,hra⟩:∃ ra,ra=za5 ps root:=⟨_,rfl⟩
 obtain⟨so,hso⟩:∃ so,so=zav ss:=⟨_,rfl⟩
 rw[←hrp] at HNO HNE HSO ⊢
 rw[←hra] at HNE HSO HK2 HFI
 rw[←hso] at HNO HSO K1
 clear hrp hra hso hs hs2 hm hT H0
 by_cases hi0:0≤ix
 · have b0 : decide (ix < 0) = false := decide_eq_false (by omega)
   have n0:¬ ix<0:=by omega
   by_cases hi1:ix≤1000000000000
   · have b1 : decide (1000000000000 < ix) = false := decide_eq_false (by omega)
     have n1:¬ 1000000000000<ix:=by omega
     cases so with
     | false =>
       have HN:Hid (rp=none):=HNO.out (fun h=>by simp at h)
       clear HNO HNE HSO HK2 HFI HS
       go_enter Tryz.func23,Tryz.ntmps23
       go_wp2_with fail
       refine K1.mono ?_
       rintro e w1 ⟨rfl,b1'⟩
       have B1:=B0.trans (b1'.mono B0.size)
       clear b1' K1
       go_wp2
       go_ret2
       exact zca HN.out B1
     | true =>
       have HOK:Hid ((0≤ix∧ix≤1000000000000)∧true=true):=⟨⟨hi0,hi1⟩,rfl⟩
       clear HNO
       go_enter Tryz.func23,Tryz.ntmps23
       go_wp2_with fail
       refine K1.mono ?_
       rintro e w1 ⟨rfl,b1'⟩
       have B1:=B0.trans (b1'.mono B0.size)
       have H1:Hid (_=_):=(b1'.block w.heap.size (by simp)).trans HH0.out
       have s1:w.heap.size<w1.heap.size:=lt_of_block H1.out
       have K2:=HK2.out w1 (HT.out.later B1) B1
       clear p0 p1 p2 p3 b1' K1 HH0 HK2
       obtain⟨p0,p1,p2,p3,_⟩:=zj H1.out
       go_wp2_with fail
       refine K2.mono ?_
       rintro e w2 ⟨a2,m2,c2,rfl,o2,b2'⟩
       have B2:=B1.trans (b2'.mono B1.size)
       have H2:Hid (_=_):=(b2'.block w.heap.size s1).trans H1.out
       have s2:w.heap.size<w2.heap.size:=lt_of_block H2.out
       cases ra with
       | none =>
         have HN:Hid (rp=none):=HNE.out rfl
         clear HNE HSO HFI K2 o2 b2' p0 p1 p2 p3 H1
         go_wp2
         go_ret2
         exact zca HN.out B2
       | some l =>
         simp only[Option.getD_some,Option.isSome_some] at o2 ⊢
         obtain⟨rfl,_,i2⟩:=zac o2
         obtain⟨h60,hsm⟩:=HFI.out l rfl
         have HR:Hid (rp=if zr l=true∧zy l=ps then some l else none):=HSO.out l HOK.out rfl
         have HO2:Hid (w2.ownsRow w.heap.size 103 2 (.slice a2 l.length c2) l.length (zb l)):=o2.mono B1.size
         have K3:=zxj a2 c2 l w2 (by omega) hsm i2 (HT.out.later B2)
         have hnl:=zhj l
         obtain⟨ro,hro⟩:∃ ro,ro=zr l:=⟨_,rfl⟩
         obtain⟨ns,hns⟩:∃ ns,ns=zy l:=⟨_,rfl⟩
         rw[←hro,←hns] at HR K3
         rw[←hns] at hnl
         clear HNE HSO HFI K2 o2 b2' p0 p1 p2 p3 H1 hro hns hsm i2 B1
         obtain⟨p0,p1,p2,p3,_⟩:=zj H2.out
         go_wp2_with fail
         refine K3.mono ?_
         rintro e w3 ⟨a3,m3,c3,rfl,o3,b3'⟩
         have B3:=B2.trans (b3'.mono B2.size)
         have H3:Hid (_=_):=(b3'.block w.heap.size s2).trans H2.out
         have s3:w.heap.size<w3.heap.size:=lt_of_block H3.out
         have HO3:Hid (w3.ownsRow w.heap.size 103 2 (.slice a2 l.length c2) l.length (zb l)):=zaj HO2.out b3'
         obtain⟨rfl,_,i3⟩:=zac o3
         clear K3 p0 p1 p2 p3 H2 HO2 b3' o3
         obtain⟨p0,p1,p2,p3,_⟩:=zj H3.out
         cases ro with
         | false =>
           have HN:Hid (rp=none):=HR.out.trans (if_neg (fun h=>by simp at h))
           clear HR
           go_wp2
           go_ret2
           exact zca HN.out B3
         | true =>
           have K4:=za1i ns ps a3 a c3 cap w3 (by omega) (by omega) i3 (HS.out w3 B3)
           by_cases hnp:ns=ps
           · have HN:Hid (rp=some l):=HR.out.trans (if_pos ⟨rfl,hnp⟩)
             rw[decide_eq_true hnp] at K4
             clear HR hnp i3
             go_wp2_with fail
             refine K4.mono ?_
             rintro e w4 ⟨rfl,b4'⟩
             have B4:=B3.trans (b4'.mono B3.size)
             have HO4:Hid (w4.ownsRow w.heap.size 103 2 (.slice a2 l.length c2) l.length (zb l)):=zaj HO3.out b4'
             clear K4 b4' HO3
             go_wp2
             go_ret2
             rw[HN.out]
             exact⟨a2,_,c2,rfl,HO4.out,B4⟩
           · have HN:Hid (rp=none):=HR.out.trans (if_neg (fun h=>hnp h.2))
             rw[decide_eq_false hnp] at K4
             clear HR hnp i3
             go_wp2_with fail
             refine K4.mono ?_
             rintro e w4 ⟨rfl,b4'⟩
             have B4:=B3.trans (b4'.mono B3.size)
             clear K4 b4' HO3
             go_wp2
             go_ret2
             exact zca HN.out B4
   · have b1:decide (1000000000000<ix)=true:=decide_eq_true (by omega)
     have n1:1000000000000<ix:=by omega
     have HN:Hid (rp=none):=HNO.out (fun h=>hi1 h.1.2)
     clear HNO HNE HSO HK2 HFI HS K1
     go_enter Tryz.func23,Tryz.ntmps23
     go_wp2
     go_ret2
     exact zca HN.out B0
 · have b0:decide (ix<0)=true:=decide_eq_true (by omega)
   have n0:ix<0:=by omega
   have HN:Hid (rp=none):=HNO.out (fun h=>hi0 h.1.1)
   clear HNO HNE HSO HK2 HFI HS K1
   go_enter Tryz.func23,Tryz.ntmps23
   go_wp2
   go_ret2
   exact zca HN.out B0
theorem za0j (ix:Int) (root:List UInt8) (a:Option Addr) (cap:Nat) (ps:List za) (c:Option Addr) (cap2:Nat) (ss:List zg) (w:World) (hl:ps.length≤1048576) (hm:∀ p∈ps,p.1.length≤1048576∧p.2.length≤1048576) (hs:IsPairs w a ps) (hl2:ss.length≤1048576) (hs2:IsSess w c ss) :
 Calls Tryz.prog 18 #[.agg #[.int .i64 ix,.string ⟨root.toArray⟩,.slice a ps.length cap,.slice c ss.length cap2]] w fun e w'=>e=.returned (.bool (repR ix root ps ss).isSome)∧Below w.heap.size w w':=by
 have B0:Below w.heap.size w (w.alloc (.cells #[.int .i64 ix,.string ⟨root.toArray⟩,.slice a ps.length cap,.slice c ss.length cap2] 34)):=(Below.refl _ _).alloc (Nat.le_refl _) _
 have H0:=heap_alloc_new w (.cells #[.int .i64 ix,.string ⟨root.toArray⟩,.slice a ps.length cap,.slice c ss.length cap2] 34)
 have HH0:Hid (_=_):=H0
 obtain⟨p0,p1,p2,p3,_⟩:=zj H0
 have HS:Hid (∀ W,Below w.heap.size w W→IsPairs W a ps):=fun W hW=>hs.later hW
 have K0:=zg0 ix 0 1000000000000 (w.alloc (.cells #[.int .i64 ix,.string ⟨root.toArray⟩,.slice a ps.length cap,.slice c ss.length cap2] 34))
 have HK1:Hid (∀ W,Below w.heap.size w W→_):=fun W hW=>za1h c cap2 ss W hl2 (hs2.later hW)
 have HK2:Hid (∀ W,Below w.heap.size w W→Calls Tryz.prog 43 #[.slice a ps.length cap,.string ⟨root.toArray⟩] W fun e w'=>zdw W (za5 ps root) e w'):=fun W hW=>zqc a cap ps root W hl hm (hs.later hW)
 have HNO:Hid (¬ ((0≤ix∧ix≤1000000000000)∧zav ss=true)→repR ix root ps ss=none):=zku
 have HNE:Hid (za5 ps root=none→repR ix root ps ss=none):=zkv
 have HSO:Hid (∀ l,(0≤ix∧ix≤1000000000000)∧zav ss=true→za5 ps root=some l→repR ix root ps ss=if zr l=true∧zy l=ps then some l else none):=fun l h1 h2=>zkw h1 h2
 have HFI:Hid (∀ l,za5 ps root=some l→l.length≤60∧∀ p∈l,p.1.length≤1048576∧p.2.length≤1048576):=fun l h=>zi3 h
 obtain⟨rp,hrp⟩:∃ rp,rp=repR ix root ps ss:=⟨_,rfl⟩
 obtain⟨ra,hra⟩:∃ ra,ra=za5 ps root:=⟨_,rfl⟩
 obtain⟨so,hso⟩:∃ so,so=zav ss:=⟨_,rfl⟩
 rw[←hrp] at HNO HNE HSO ⊢
 rw[←hra] at HNE HSO HK2 HFI
 rw[←hso] at HNO HSO HK1
 clear hrp hra hso hs hs2 hm H0
 by_cases hi:0≤ix∧ix≤1000000000000
 · rw [decide_eq_true hi] at K0
   cases so with
   | false =>
     have HN:Hid (rp=none):=HNO.out (fun h=>by simp at h)
     clear HNO HNE HSO HK2 HFI HS
     go_enter Tryz.func18,Tryz.ntmps18
     go_wp2_with fail
     refine K0.mono ?_
     rintro e w0 ⟨rfl,b0'⟩
     have Bz:=B0.trans (b0'.mono B0.size)
     obtain⟨q0,q1,q2,q3,_⟩:=zj ((b0'.block w.heap.size (by simp)).trans HH0.out)
     have K1:=HK1.out w0 Bz
     clear p0 p1 p2 p3 K0 HK1 b0'
     go_wp2_with fail
     refine K1.mono ?_
     rintro e w1 ⟨rfl,b1'⟩
     have B1:=Bz.trans (b1'.mono Bz.size)
     clear b1' K1
     go_wp2
     go_ret
     obtain rfl:=HN.out
     exact⟨rfl,B1⟩
   | true =>
     have HOK:Hid ((0≤ix∧ix≤1000000000000)∧true=true):=⟨hi,rfl⟩
     clear HNO
     go_enter Tryz.func18,Tryz.ntmps18
     go_wp2_with fail
     refine K0.mono ?_
     rintro e w0 ⟨rfl,b0'⟩
     have Bz:=B0.trans (b0'.mono B0.size)
     have Hz:Hid (_=_):=(b0'.block w.heap.size (by simp)).trans HH0.out
     have sz:w.heap.size<w0.heap.size:=lt_of_block Hz.out
     have K1:=HK1.out w0 Bz
     clear p0 p1 p2 p3 K0 HK1 b0' HH0
     obtain⟨p0,p1,p2,p3,_⟩:=zj Hz.out
     go_wp2_with fail
     refine K1.mono ?_
     rintro e w1 ⟨rfl,b1'⟩
     have B1:=Bz.trans (b1'.mono Bz.size)
     have H1:Hid (_=_):=(b1'.block w.heap.size sz).trans Hz.out
     have s1:w.heap.size<w1.heap.size:=lt_of_block H1.out
     have K2:=HK2.out w1 B1
     clear p0 p1 p2 p3 b1' K1 Hz HK2 Bz
     obtain⟨p0,p1,p2,p3,_⟩:=zj H1.out
     go_wp2_with fail
     refine K2.mono ?_
     rintro e w2 ⟨a2,m2,c2,rfl,o2,b2'⟩
     have B2:=B1.trans (b2'.mono B1.size)
     have H2:Hid (_=_):=(b2'.block w.heap.size s1).trans H1.out
     have s2:w.heap.size<w2.heap.size:=lt_of_block H2.out
     cases ra with
     | none =>
       have HN:Hid (rp=none):=HNE.out rfl
       clear HNE HSO HFI K2 o2 b2' p0 p1 p2 p3 H1
       go_wp2
       go_ret
       obtain rfl:=HN.out
       exact⟨rfl,B2⟩
     | some l =>
       simp only[Option.getD_some,Option.isSome_some] at o2 ⊢
       obtain⟨rfl,_,i2⟩:=zac o2
       obtain⟨h60,hsm⟩:=HFI.out l rfl
       have HR:Hid (rp=if zr l=true∧zy l=ps then some l else none):=HSO.out l HOK.out rfl
       have K3:=zxk a2 c2 l w2 (by omega) hsm i2
       have hnl:=zhj l
       obtain⟨ro,hro⟩:∃ ro,ro=zr l:=⟨_,rfl⟩
       obtain⟨ns,hns⟩:∃ ns,ns=zy l:=⟨_,rfl⟩
       rw[←hro,←hns] at HR K3
       rw[←hns] at hnl
       clear HNE HSO HFI K2 o2 b2' p0 p1 p2 p3 H1 hro hns hsm i2 B1
       obtain⟨p0,p1,p2,p3,_⟩:=zj H2.out
       go_wp2_with fail
       refine K3.mono ?_
       rintro e w3 ⟨a3,m3,c3,rfl,o3,b3'⟩
       have B3:=B2.trans (b3'.mono B2.size)
       have H3:Hid (_=_):=(b3'.block w.heap.size s2).trans H2.out
       have s3:w.heap.size<w3.heap.size:=lt_of_block H3.out
       obtain⟨rfl,_,i3⟩:=zac o3
       clear K3 p0 p1 p2 p3 H2 b3' o3
       obtain⟨p0,p1,p2,p3,_⟩:=zj H3.out
       cases ro with
       | false =>
         have HN:Hid (rp=none):=HR.out.trans (if_neg (fun h=>by simp at h))
         clear HR
         go_wp2
         go_ret
         obtain rfl:=HN.out
         exact⟨rfl,B3⟩
       | true =>
         have K4:=za1j ns ps a3 a c3 cap w3 (by omega) (by omega) i3 (HS.out w3 B3)
         by_cases hnp:ns=ps
         · have HN:Hid (rp=some l):=HR.out.trans (if_pos ⟨rfl,hnp⟩)
           rw[decide_eq_true hnp] at K4
           clear HR hnp i3
           go_wp2_with fail
           refine K4.mono ?_
           rintro e w4 ⟨rfl,b4'⟩
           have B4:=B3.trans (b4'.mono B3.size)
           clear K4 b4'
           go_wp2
           go_ret
           obtain rfl:=HN.out
           exact⟨rfl,B4⟩
         · have HN:Hid (rp=none):=HR.out.trans (if_neg (fun h=>hnp h.2))
           rw[decide_eq_false hnp] at K4
           clear HR hnp i3
           go_wp2_with fail
           refine K4.mono ?_
           rintro e w4 ⟨rfl,b4'⟩
           have B4:=B3.trans (b4'.mono B3.size)
           clear K4 b4'
           go_wp2
           go_ret
           obtain rfl:=HN.out
           exact⟨rfl,B4⟩
 · rw[decide_eq_false hi] at K0
   have HN:Hid (rp=none):=HNO.out (fun h=>hi h.1)
   clear HNO HNE HSO HK2 HFI HS HK1
   go_enter Tryz.func18,Tryz.ntmps18
   go_wp2_with fail
   refine K0.mono ?_
   rintro e w0 ⟨rfl,b0'⟩
   have Bz:=B0.trans (b0'.mono B0.size)
   go_wp2
   go_ret
   obtain rfl:=HN.out
   exact⟨rfl,Bz⟩
end Go.Proofs.YtppljdnbhoeeoaaGreatDoor
