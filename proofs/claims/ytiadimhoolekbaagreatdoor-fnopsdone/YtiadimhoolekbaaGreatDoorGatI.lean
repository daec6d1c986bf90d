/-
 The program's pairs under a node: the closure, by the fuel.
-/
import Derived.Test.YtiadimhoolekbaaGreatDoorGatAll
namespace Go.Proofs.YtiadimhoolekbaaGreatDoor
open Go.RowKit
set_option linter.unusedVariables false
set_option maxHeartbeats 4000000
set_option maxRecDepth 100000
theorem zwh (x:Int) (c:UInt8) (w:World) (hx:x=(c.toNat:Int)) :
 Calls Tryz.prog 88 #[.int .i64 x] w fun e w'=>e=.returned (.string ⟨[c].toArray⟩)∧Below w.heap.size w w':=by
 have hc:=c.toNat_lt
 have hcv:=zdi [c] #[.int .u8 x] (by simp only[zg,List.map_cons,List.map_nil];rw[hx]) 1 rfl (by decide)
 have h0:0≤x:=by omega
 have h1:x<256:=by omega
 clear hx hc
 go_enter Tryz.func88,Tryz.ntmps88
 go_wp2
 go_ret
 exact⟨rfl,(Below.refl _ _).alloc (Nat.le_refl _) _⟩
def nibK (k:Int) (i:Nat):List UInt8:=if k=3 then [UInt8.ofNat i] else []
theorem zwi (k:Int) (full:List UInt8) (i:Nat):full ++ nibK k i=zc9 k full i:=by
 unfold nibK zc9
 split <;> simp
theorem zwj (k:Int) (p:ByteArray) (a:Option Addr) (m c:Nat) (v:ByteArray) (i:Nat) (w:World) (hi:i<256) :
 Calls Tryz.prog 56 #[.agg #[.int .i64 k,.string p,.slice a m c,.string v],.int .i64 (i:Int)] w fun e w'=>e=.returned (.string ⟨(nibK k i).toArray⟩)∧Below w.heap.size w w':=by
 by_cases hk:k=3
 · subst hk
   have hq:nibK 3 i=[UInt8.ofNat i]:=rfl
   obtain⟨y,hy⟩:∃ y,y=UInt8.ofNat i:=⟨_,rfl⟩
   have hyi:(i:Int)=(y.toNat:Int):=by rw[hy,UInt8.toNat_ofNat'];omega
   rw[hq,←hy]
   obtain⟨x,hx⟩:∃ x,x=(i:Int):=⟨_,rfl⟩
   rw[←hx] at hyi ⊢
   have K:=fun W=>zwh x y W hyi
   clear hx hy hq hyi
   go_enter Tryz.func56,Tryz.ntmps56
   go_wp2_with fail
   refine (K _).mono ?_
   rintro e w1 ⟨rfl,b1⟩
   go_wp2
   go_ret
   exact⟨rfl,((Below.refl _ _).alloc (Nat.le_refl _) _).trans (b1.mono (by simp))⟩
 · have hq:nibK k i=[]:=if_neg hk
   rw[hq]
   have hk':(k == 3)=false:=by simpa using hk
   have hk2:(k != 3)=true:=by simpa using hk
   clear hq
   go_enter Tryz.func56,Tryz.ntmps56
   go_wp2
   go_ret
   exact⟨rfl,(Below.refl _ _).alloc (Nat.le_refl _) _⟩
theorem zwk {w0 W W':World} {t:List UInt8} {e:Ending} {k:Int} {q x:List UInt8} {ls:List (List UInt8)} (hnd:nodeAt t=⟨k,q,ls,x⟩) (h:zkl w0 W (some t) e W'):∃ (a:Option Addr) (c:Nat),e=.returned (.tuple #[.agg #[.string ⟨t.toArray⟩,.int .i64 k,.string ⟨q.toArray⟩,.slice a ls.length c,.string ⟨x.toArray⟩],.bool true])∧zw w0 a ls∧Below W.heap.size W W':=by
 obtain⟨⟨a,c,h1,h2,_⟩,h4⟩:=h
 rw[hnd] at h1 h2
 exact⟨a,c,h1,h2,h4⟩
theorem zkt (a b:List UInt8):(ByteArray.mk a.toArray ++ ByteArray.mk b.toArray)=ByteArray.mk (a ++ b).toArray:=by
 have h:(ByteArray.mk a.toArray ++ ByteArray.mk b.toArray).data=(ByteArray.mk (a ++ b).toArray).data:=by simp
 exact ByteArray.ext h
theorem zwl (w0 : World) (bn bp bg mb lim : Nat) (ps : List za) (f : Nat) (hst : zu ps = true) (hM : HeldM w0 mb ps ps.length)
 (hbn:w0.heap.size≤bn) (hbp:w0.heap.size≤bp) (hbg:w0.heap.size≤bg) (hnp:bn≠bp) (hgp:bg≠bp) (hnl:bn<lim) (hpl:bp<lim) (hgl:bg<lim) (hlim:lim≤bn+1∨lim≤bp+1∨lim≤bg+1)
 (hk:zi3 w0 bn bp bg mb lim ps f):zi3 w0 bn bp bg mb lim ps (f+1):=by
 intro h path w v0 acc hh hf hp hn hB hE hacc
 have K1:=zw7 mb ps h w0 w hst hh hM hB
 have c0:=(one_cell hE.nodes).1
 cases hfd:zh ps h with
 | none =>
   have HR:Hid (Lost (atF (zh ps) (f+1) h path) acc.length):=.inl (zi2 _ _ _ _ hfd)
   rw[hfd] at K1
   have hz:(ByteArray.mk path.toArray ++ ByteArray.mk #[])=ByteArray.mk path.toArray:=by have:=zkt path [];simpa using this
   clear hfd
   go_enter Tryz.func53,Tryz.ntmps53
   go_wp2_with fail
   refine K1.mono ?_
   rintro e w1 ⟨rfl,b1⟩
   have B1:Hid (∀ o,Below w0.heap.size w0 (w1.alloc o)):=fun o=>(hB.trans (b1.mono hB.size)).alloc (Nat.le_trans hB.size b1.size) o
   clear b1 K1 c0
   go_wp2
   go_ret
   exact .inr ⟨rfl,HR.out,B1.out _⟩
 | some t =>
   obtain⟨_,_,_,_,htr⟩:=zi9 ps hst h t hfd
   have hok:=zkv t htr
   obtain⟨nd,hnd⟩:∃ nd,nd=nodeAt t:=⟨_,rfl⟩
   obtain⟨k,q,ls,x⟩:=nd
   rw[←hnd] at hok
   have hparts:=zkw _ hok
   simp only at hparts
   obtain⟨hq24,hqn,hx60,hkind⟩:=hparts
   obtain⟨res,hres⟩:∃ res,res=atF (zh ps) (f+1) h path:=⟨_,rfl⟩
   have HRES:Hid (res=if zb2 (path ++ q) x=true then (za7 (atF (zh ps) f) k (path ++ q) ls ls.length).map (ownP (path ++ q) x ++ ·) else none):=by rw[Hid,hres,zfw _ _ _ _ _ k q x ls hfd hnd.symm]
   rw[←hres]
   obtain⟨full,hfull⟩:∃ full,full=path ++ q:=⟨_,rfl⟩
   have hcat:(ByteArray.mk path.toArray ++ ByteArray.mk q.toArray)=ByteArray.mk full.toArray:=by rw[hfull];exact zkt path q
   have HFL:Hid (full.length=path.length+q.length):=by rw[Hid,hfull,List.length_append]
   have hzf:(ByteArray.mk full.toArray).size=full.length:=by simp[ByteArray.size]
   rw[←hfull] at HRES
   have HFN:Hid (zo full=true):=by rw[Hid,hfull,zfz,hn,hqn];rfl
   have HAP:Hid (∀ W W' e,zkl w0 W (some t) e W'→∃ (a:Option Addr) (c:Nat),e=.returned (.tuple #[.agg #[.string ⟨t.toArray⟩,.int .i64 k,.string ⟨q.toArray⟩,.slice a ls.length c,.string ⟨x.toArray⟩],.bool true])∧zw w0 a ls∧Below W.heap.size W W'):=fun W W' e hh=>zwk hnd.symm hh
   rw[hfd] at K1
   clear hres hfd hok htr hnd hfull hn hqn
   by_cases hf24:full.length≤24
   · have hfi : (full.length : Int) ≤ 24 := by omega
     have hfd:decide ((24:Int)<(full.length:Int))=false:=by simp;omega
     obtain⟨va,vm,vc,rfl⟩:=zbj hE.row
     obtain⟨hvm,_,_⟩:=za8 hE.row
     have HVM:Hid (vm=acc.length):=hvm
     by_cases hac:acc.length≤60
     · have hvi : (vm : Int) ≤ 60 := by omega
       have hvd:decide ((60:Int)<(vm:Int))=false:=by simp;omega
       have hlw:lim≤w.heap.size:=by
        have h1:=lt_of_block hE.nodes
        have h2:=lt_of_block hE.box
        have h3:=lt_of_block hE.self
        omega
       have hw0:=hB.size
       have HE:Hid (GEnv w bn bp bg mb (.slice va vm vc) acc lim):=hE
       have HB:Hid (Below w0.heap.size w0 w):=hB
       have HG:Hid (zi3 w0 bn bp bg mb lim ps f):=hk
       have hvl:Hid (∀ b,(Value.slice va vm vc).ownBlock=some b→lim≤b∧b<w.heap.size):=fun b hb=>hE.row.lt b hb
       clear hE hB hk hM hvm
       go_enter Tryz.func53,Tryz.ntmps53
       go_wp2_with fail
       refine K1.mono ?_
       rintro e w1 h1
       obtain⟨a1,c1,rfl,i1,b1⟩:=HAP.out _ _ _ h1
       have bX:Below w.heap.size w (w1.alloc (.cells #[.string ⟨t.toArray⟩,.int .i64 k,.string ⟨q.toArray⟩,.slice a1 ls.length c1,.string ⟨x.toArray⟩] 97)):=b1.trans ((Below.refl _ _).alloc b1.size _)
       have hsw:=b1.size
       have EX:Hid (GEnv (w1.alloc (.cells #[.string ⟨t.toArray⟩,.int .i64 k,.string ⟨q.toArray⟩,.slice a1 ls.length c1,.string ⟨x.toArray⟩] 97)) bn bp bg mb (.slice va vm vc) acc lim):=HE.out.below bX
       have KX:Hid (GKept w0 w bp (.slice va vm vc) (.slice va vm vc) (w1.alloc (.cells #[.string ⟨t.toArray⟩,.int .i64 k,.string ⟨q.toArray⟩,.slice a1 ls.length c1,.string ⟨x.toArray⟩] 97))):=(GKept.start HB.out).on bX hw0
       have QX:Hid ((w1.alloc (.cells #[.string ⟨t.toArray⟩,.int .i64 k,.string ⟨q.toArray⟩,.slice a1 ls.length c1,.string ⟨x.toArray⟩] 97)).heap[w1.heap.size]? = some (.cells #[.string ⟨t.toArray⟩,.int .i64 k,.string ⟨q.toArray⟩,.slice a1 ls.length c1,.string ⟨x.toArray⟩] 97 (0,0))):=heap_alloc_new w1 _
       have cp:=(one_cell EX.out.box).1
       obtain⟨n0,n1,n2,n3,n4,_⟩:=zd2 QX.out
       have I0:Hid (zw w0 a1 ls):=i1
       have hszX:(w1.alloc (.cells #[.string ⟨t.toArray⟩,.int .i64 k,.string ⟨q.toArray⟩,.slice a1 ls.length c1,.string ⟨x.toArray⟩] 97)).heap.size=w1.heap.size+1:=by simp
       clear b1 K1 c0 h1 HAP i1 bX HB HE
       go_upto_if 38 with fail
       go_cut [] from 12 (fun wx=>∃ v:Value,Hid (zb2 full x=true)∧Hid (GEnv wx bn bp bg mb v (acc ++ ownP full x) lim)∧Hid (GKept w0 w bp (.slice va vm vc) v wx)∧Hid (wx.heap[w1.heap.size]? = some (.cells #[.string ⟨t.toArray⟩,.int .i64 k,.string ⟨q.toArray⟩,.slice a1 ls.length c1,.string ⟨x.toArray⟩] 97 (0,0)))∧acc.length+(ownP full x).length≤61∧Hid (∀ b,v.ownBlock=some b→b≠w1.heap.size))
       case first =>
        by_cases hx:x=[]
        · subst hx
          have HFO:Hid (zb2 full []=true):=by simp[Hid,zb2,hf24]
          have HV:Hid (∀ b,(Value.slice va vm vc).ownBlock=some b→b≠w1.heap.size):=fun b hb e=>by have:=hvl.out b hb;omega
          have hnil:acc ++ ownP full []=acc:=by simp[ownP]
          clear HRES
          go_wp2_with fail
          go_meet
          case rel=>exact⟨_,HFO,by rw[hnil];exact EX,KX,QX,by simp[ownP];omega,HV⟩
        · have hxe:x.isEmpty=false:=by cases x with | nil=>exact absurd rfl hx | cons _ _=>rfl
          have hxn:(!x.isEmpty)=true:=by rw[hxe];rfl
          by_cases hpar:full.length % 2=0
          · have hpi : (full.length : Int) % 2 = 0 := by omega
            have hpd:((full.length:Int) % 2 == 0)=true:=by simp;omega
            have hpb:((full.length:Int) % 2 != 0)=false:=by simp;omega
            have HFO:Hid (zb2 full x=true):=by simp[Hid,zb2,hf24,hpar]
            obtain⟨i0,hi0,hz0,hz1,hz2⟩:=info_parts zey
            have hown1:ownP full x=[(pack full,x)]:=if_neg hx
            have KP:Hid (∀ W,Calls Tryz.prog 55 #[.string ⟨full.toArray⟩] W fun e w'=>e=.returned (.string ⟨(pack full).toArray⟩)∧Below W.heap.size W w'):=fun W=>by
             have:=zp8 ⟨full.toArray⟩ (full.length / 2) W (by omega) (by rw[hzf];omega) (by have:=HFN.out;simpa using this)
             simpa using this
            obtain⟨key,hkey⟩:∃ key,key=pack full:=⟨_,rfl⟩
            rw[←hkey] at KP hown1
            have HON:Hid (ownP full x=[(key,x)]):=hown1
            have K8:=KP.out (w1.alloc (.cells #[.string ⟨t.toArray⟩,.int .i64 k,.string ⟨q.toArray⟩,.slice a1 ls.length c1,.string ⟨x.toArray⟩] 97)).drew
            have hbpw:=lt_of_block EX.out.box
            clear HRES hkey KP hown1 hx
            go_wp2_with fail
            all_goals first | (exfalso;rename_i h9;rw[hxe] at h9;exact absurd h9 (by decide)) | skip
            go_region_law (first
             | (go_simp
                go_at_call 55
                refine K8.mono ?_
                rintro r w3 ⟨rfl,b3'⟩
                have b3:Below (w1.alloc (.cells #[.string ⟨t.toArray⟩,.int .i64 k,.string ⟨q.toArray⟩,.slice a1 ls.length c1,.string ⟨x.toArray⟩] 97)).heap.size (w1.alloc (.cells #[.string ⟨t.toArray⟩,.int .i64 k,.string ⟨q.toArray⟩,.slice a1 ls.length c1,.string ⟨x.toArray⟩] 97)) w3:=⟨b3'.os,b3'.tape,b3'.output,b3'.size,b3'.block⟩
                have s3:w1.heap.size+1≤w3.heap.size:=(by have:=b3.size;omega)
                have E3:Hid (GEnv w3 bn bp bg mb (.slice va vm vc) acc lim):=EX.out.below b3
                have Q3:Hid (w3.heap[w1.heap.size]? = some (.cells #[.string ⟨t.toArray⟩,.int .i64 k,.string ⟨q.toArray⟩,.slice a1 ls.length c1,.string ⟨x.toArray⟩] 97 (0,0))):=(b3.block _ (by omega)).trans QX.out
                have ca3:=(one_cell E3.out.box).1
                obtain⟨t0,t1,t2,t3,t4,_⟩:=zd2 Q3.out
                have CA:Hid (Below (w1.alloc (.cells #[.string ⟨t.toArray⟩,.int .i64 k,.string ⟨q.toArray⟩,.slice a1 ls.length c1,.string ⟨x.toArray⟩] 97)).heap.size (w1.alloc (.cells #[.string ⟨t.toArray⟩,.int .i64 k,.string ⟨q.toArray⟩,.slice a1 ls.length c1,.string ⟨x.toArray⟩] 97)) w3):=b3
                have OA:Hid ((w3.alloc (.cells #[.string ⟨key.toArray⟩,.string ⟨x.toArray⟩] 61)).ownsRow lim 61 2 (.slice va vm vc) acc.length (zc acc)):=E3.out.row.alloc _
                have NA:Hid (∀ q u,[Value.string ⟨key.toArray⟩,.string ⟨x.toArray⟩][q]? = some u→(w3.alloc (.cells #[.string ⟨key.toArray⟩,.string ⟨x.toArray⟩] 61)).cell? ((⟨w3.heap.size,0,none⟩:Addr).add q)=some u):=World.news_of_block (cs:=#[.string ⟨key.toArray⟩,.string ⟨x.toArray⟩]) (t:=61) (fr:=(0,0)) (heap_alloc_new w3 _)
                have ca4:=(one_cell (E3.out.below ((Below.refl _ _).alloc (Nat.le_refl _) (.cells #[.string ⟨key.toArray⟩,.string ⟨x.toArray⟩] 61))).box).1
                clear b3 b3')
             | (refine step_append_lies _ rfl (.tmp 43) (.tmp 50) 32 rfl lim 61 i0 (.agg #[.string ⟨#[]⟩, .string ⟨#[]⟩]) 2 32 Tryz.underlying32 hi0 hz0 hz1 hz2 rfl (by decide) (.slice va vm vc) acc.length (zc acc) (by simp [Act.eval]) OA.out ⟨w3.heap.size, 0, none⟩ 1 1 [.string ⟨key.toArray⟩, .string ⟨x.toArray⟩] (by simp [Act.eval]) rfl NA.out (by simp [Value.oneCell']) (by omega) (by unfold maxLen; omega) (by omega) (by simp; omega) (w3.heap.size + 1) (by simp) ?_
                intro g5 cap5 w5 hown5 hgrow5 hat5 hlt5
                have HF:=KX.out.more EX.out hw0 hnp hgp hpl hnl hgl hbp (by omega) hlw CA.out (e:=(key,x)) (v6:=.slice (some ⟨g5,0,none⟩) (acc.length+1) cap5) hgrow5 (fun q hq=>by
                 simp only[Value.ownBlock,Option.some.injEq] at hq
                 subst hq
                 rcases hat5 with h | h
                 · exact .inl h
                 · exact .inr (by simp;omega)) hown5
                have HF1:Hid (GKept w0 w bp (.slice va vm vc) (.slice (some ⟨g5,0,none⟩) (acc.length+1) cap5) (w5.setCell ⟨bp,0,none⟩ (.slice (some ⟨g5,0,none⟩) (acc.length+1) cap5))):=HF.1
                have HF2:Hid (GEnv (w5.setCell ⟨bp,0,none⟩ (.slice (some ⟨g5,0,none⟩) (acc.length+1) cap5)) bn bp bg mb (.slice (some ⟨g5,0,none⟩) (acc.length+1) cap5) (acc ++ [(key,x)]) lim):=HF.2
                have P5:w5.heap[bp]? = some (.cells #[.slice va vm vc] 32 (0,0)):=(hgrow5.block bp (by have:=lt_of_block E3.out.box;simp;omega) (fun e=>by have:=hvl.out _ e.symm;omega)).trans ((heap_alloc_old w3 _ (lt_of_block E3.out.box)).trans E3.out.box)
                have cb5:=(one_cell P5).1
                have fb5:=(one_cell P5).2 0
                have HQ5:Hid ((w5.setCell ⟨bp,0,none⟩ (.slice (some ⟨g5,0,none⟩) (acc.length+1) cap5)).heap[w1.heap.size]? = some (.cells #[.string ⟨t.toArray⟩,.int .i64 k,.string ⟨q.toArray⟩,.slice a1 ls.length c1,.string ⟨x.toArray⟩] 97 (0,0))):=(Below.heap_setCell _ _ _ _ (by simp only;omega)).trans ((hgrow5.block _ (by simp;omega) (fun e=>by have:=hvl.out _ e.symm;omega)).trans ((heap_alloc_old w3 _ (by omega)).trans Q3.out))
                have HV5:Hid (∀ b,(Value.slice (some ⟨g5,0,none⟩) (acc.length+1) cap5).ownBlock=some b→b≠w1.heap.size):=(fun b hb e=>by
                 simp only[Value.ownBlock,Option.some.injEq] at hb
                 subst hb
                 rcases hat5 with h | h
                 · have:=hvl.out _ h;omega
                 · (try simp at h);omega)
                clear hown5 hgrow5 hat5 P5 HF))
            all_goals
             go_wp2
             go_meet
             case rel=>exact⟨_,HFO,by rw[HON.out];exact HF2,HF1,HQ5,by rw[HON.out];simp;omega,HV5⟩
          · have HR:Hid (Lost res acc.length):=by
             refine .inl (HRES.out.trans (if_neg ?_))
             simp only[zb2,Bool.and_eq_true,Bool.or_eq_true,decide_eq_true_eq]
             exact fun h=>h.2.elim hx hpar
            have hpi:(full.length:Int) % 2=1:=by omega
            have hpd:((full.length:Int) % 2 == 0)=false:=by simp;omega
            have hpb:((full.length:Int) % 2 != 0)=true:=by simp;omega
            clear HRES hx
            go_wp2
            all_goals first | (exfalso;rename_i h9;rw[hxe] at h9;exact absurd h9 (by decide)) | skip
            go_ret
            exact .inr ⟨rfl,HR.out,KX.out.below⟩
       case rest =>
        obtain⟨v1,HFO,HE1,HK1,HH1,hl1,HV1⟩:=hcut
        obtain⟨own,hown⟩:∃ own,own=ownP full x:=⟨_,rfl⟩
        have HRK:Hid (res=(za7 (atF (zh ps) f) k full ls ls.length).map (own ++ ·)):=by rw[Hid,HRES.out,if_pos HFO.out,hown]
        rw[←hown] at HE1 hl1
        have HWX:Hid (w1.heap.size<wc.heap.size):=lt_of_block HH1.out
        obtain⟨hb,hhb⟩:∃ hb,hb=w1.heap.size:=⟨_,rfl⟩
        have HHB:Hid (w.heap.size≤hb):=by rw[Hid,hhb];exact hsw
        obtain⟨e0,e1,e2,e3,e4,_⟩:=zd2 HH1.out
        rw[←hhb] at e0 e1 e2 e3 e4 HH1 HV1 ⊢
        clear hown HRES HFO EX KX QX cp n0 n1 n2 n3 n4 hszX HWX hhb
        go_wp2
        go_loopw [10,11,56] (fun _ _ i wr=>∃ (j:Nat) (v:Value) (l:List za),j≤ls.length∧i=.int .i64 (j:Int)∧Hid (za7 (atF (zh ps) f) k full ls j=some l)∧Hid (GEnv wr bn bp bg mb v (acc ++ own ++ l) lim)∧Hid (GKept w0 w bp (.slice va vm vc) v wr)∧Hid (wr.heap[hb]? = some (.cells #[.string ⟨t.toArray⟩,.int .i64 k,.string ⟨q.toArray⟩,.slice a1 ls.length c1,.string ⟨x.toArray⟩] 97 (0,0)))∧acc.length+own.length+l.length≤61∧Hid (∀ b,v.ownBlock=some b→b≠hb)) (fun _ _ i _=>ls.length - (intOf i).toNat)
        case atStart=>exact⟨0,v1,[],Nat.zero_le _,rfl,rfl,by rw[List.append_nil];exact HE1,HK1,HH1,by simpa using hl1,HV1⟩
        case round =>
         obtain⟨j,v,l,hj,rfl,HT,HEr,HKr,HHr,hlr,HVr⟩:=hrel
         clear e0 e1 e2 e3 e4
         obtain⟨e0,e1,e2,e3,e4,_⟩:=zd2 HHr.out
         by_cases hlt:j<ls.length
         · have hji : (j : Int) < (ls.length : Int) := by omega
           have hj0:(0:Int)≤(j:Int):=by omega
           obtain⟨b2,off2,ha1,hcell⟩:=zg2 I0.out j hlt
           subst ha1
           have d1:=(HKr.out.below.cell (p:=⟨b2,off2+j,none⟩) (World.block_lt_of_cell? w0 _ (hcell j hlt))).trans (hcell j hlt)
           obtain⟨kid,hkid⟩:∃ kid,kid=ls.getD j []:=⟨_,rfl⟩
           rw[←hkid] at d1
           have hl16:ls.length≤16:=by
            rcases hkind with ⟨_,h2,_⟩ | ⟨_,_,_,y,h4,_⟩ | ⟨_,_,h3,_⟩
            · rw[h2];simp
            · rw[h4];simp
            · omega
           clear hcell
           by_cases hke:kid=[]
           · have HT1:Hid (za7 (atF (zh ps) f) k full ls (j+1)=some l):=zkm HT.out (by rw[←hkid];exact hke)
             subst hke
             clear hkid HG HRK HT
             go_wp2
             first | (go_quiet (fail);go_wp2) | skip
             go_roundw
             case rel=>exact⟨j+1,v,l,by omega,by go_num,HT1,by first | exact HEr.out | exact HEr.out.drew | exact HEr.out.drewN,by first | exact HKr.out | exact HKr.out.drew | exact HKr.out.drewN,HHr,hlr,HVr⟩
             case measure=>simp[intOf];omega
           · have hke' : ls.getD j [] ≠ [] := by rw [← hkid]; exact hke
             have hkm:ls.getD j []∈ls:=by rw[List.getD_eq_getElem?_getD,List.getElem?_eq_getElem hlt];exact List.getElem_mem hlt
             have hks : kid.length ≤ 32 ∧ ls.length ≤ 16 ∧ path.length + 1 ≤ (zc9 k full j).length ∧ (zc9 k full j).length ≤ 25 ∧ zo (zc9 k full j) = true := by
              have hfu:=HFL.out
              rcases hkind with ⟨_,h2,_⟩ | ⟨h1,h2,_,y,h4,h5⟩ | ⟨h1,h2,h3,h4⟩
              · rw[h2] at hlt;simp at hlt
              · have hq1:q.length≠0:=fun e=>h2 (List.length_eq_zero_iff.1 e)
                have hst:zc9 k full j=full:=if_neg (by omega)
                rw[hst]
                refine⟨?_,by rw[h4];simp,by omega,by omega,HFN.out⟩
                rw[←hkid,h4] at hkm
                simp at hkm
                rw[hkm];omega
              · have hst:zc9 k full j=full ++ [UInt8.ofNat j]:=if_pos h1
                rw[h2] at hfu
                simp at hfu
                rw[hst]
                refine⟨?_,by omega,by simp;omega,by simp;omega,?_⟩
                · rcases h4 _ hkm with h | h
                  · exact absurd h hke'
                  · rw[hkid];omega
                · have h15:(UInt8.ofNat j).toNat≤15:=by rw[UInt8.toNat_ofNat'];omega
                  rw[zfz,HFN.out]
                  simp only[zo,List.all_cons,List.all_nil,Bool.and_true,Bool.true_and,decide_eq_true_eq]
                  exact h15
             obtain⟨hk1,hk2,hk3,hk4,hk5⟩:=hks
             obtain⟨nb,hnb⟩:∃ nb,nb=nibK k j:=⟨_,rfl⟩
             have KS:Hid (∀ (a:Option Addr) (m c:Nat) W,Calls Tryz.prog 56 #[.agg #[.int .i64 k,.string ⟨q.toArray⟩,.slice a m c,.string ⟨x.toArray⟩],.int .i64 (j:Int)] W fun e w'=>e=.returned (.string ⟨nb.toArray⟩)∧Below W.heap.size W w'):=fun a m c W=>by rw[hnb];exact zwj k _ a m c _ j W (by omega)
             obtain⟨more,hmore⟩:∃ more,more=zc9 k full j:=⟨_,rfl⟩
             have hcat2:(ByteArray.mk full.toArray ++ ByteArray.mk nb.toArray)=ByteArray.mk more.toArray:=by rw[hmore,←zwi,hnb];exact zkt full _
             rw[←hmore] at hk3 hk4 hk5
             have hnbl:nb.length≤1:=by rw[hnb];unfold nibK;split <;> simp
             have hnol:¬ 9223372036854775807<full.length+nb.length:=by omega
             have KG:Hid (∀ W,Below w0.heap.size w0 W→GEnv W bn bp bg mb v (acc ++ own ++ l) lim→Calls Tryz.prog 53 #[.string ⟨kid.toArray⟩,.string ⟨more.toArray⟩,.pointer (some ⟨bn,0,none⟩),.pointer (some ⟨bp,0,none⟩),.pointer (some ⟨bg,0,none⟩)] W fun r w'=>zks w0 W bn bp bg mb lim v (acc ++ own ++ l) (atF (zh ps) f kid more) r w'):=fun W hW hE=>HG.out kid more W v (acc ++ own ++ l) (by omega) (by omega) hk4 hk5 hW hE (by simp only[List.length_append];omega)
             have HLO:Hid (Lost (atF (zh ps) f kid more) (acc ++ own ++ l).length→Lost res acc.length):=fun hl=>by
              rw[HRK.out]
              refine zkn HT.out hlt hke' ?_
              rw[←hkid,←hmore]
              simpa only[List.length_append] using hl
             have HSO:Hid (∀ l5,atF (zh ps) f kid more=some l5→za7 (atF (zh ps) f) k full ls (j+1)=some (l ++ l5)):=fun l5 h5=>by
              rw[zfc HT.out hke',←hkid,←hmore,h5];rfl
             have hkn:kid.isEmpty=false:=by cases kid with | nil=>exact absurd rfl hke | cons _ _=>rfl
             have KS1:=KS.out (some ⟨b2,off2,none⟩) ls.length c1 wr.drew
             have s1:=(one_cell HEr.out.self).1
             obtain⟨res5,hres5⟩:∃ r5,r5=atF (zh ps) f kid more:=⟨_,rfl⟩
             rw[←hres5] at KG HLO HSO
             have hhbr:=lt_of_block HHr.out
             clear hkid hke hke' hkm HG HRK HT hnb hmore KS hres5 hk1 hk3 hk4 hk5
             go_wp2_with fail
             go_region_law (first
              | (go_simp
                 go_at_call 56
                 refine KS1.mono ?_
                 rintro r w2 ⟨rfl,b2'⟩
                 have bb:Below wr.heap.size wr w2:=⟨b2'.os,b2'.tape,b2'.output,b2'.size,b2'.block⟩
                 have E2:Hid (GEnv w2 bn bp bg mb v (acc ++ own ++ l) lim):=HEr.out.below bb
                 have K2:Hid (GKept w0 w bp (.slice va vm vc) v w2):=HKr.out.on bb hw0
                 have H2:Hid (w2.heap[hb]? = some (.cells #[.string ⟨t.toArray⟩,.int .i64 k,.string ⟨q.toArray⟩,.slice (some ⟨b2,off2,none⟩) ls.length c1,.string ⟨x.toArray⟩] 97 (0,0))):=(bb.block _ hhbr).trans HHr.out
                 have s2:=(one_cell E2.out.self).1
                 have hb2:=lt_of_block H2.out
                 have KG2:=KG.out w2 K2.out.below E2.out
                 clear bb b2')
              | (go_simp
                 go_at_call 53
                 refine KG2.mono ?_
                 rintro r w5 h5
                 obtain⟨ok,rfl,hy5,hn5⟩:=zwg h5
                 have HY:Hid (ok=true→∃ l5 v',res5=some l5∧GEnv w5 bn bp bg mb v' (acc ++ own ++ l ++ l5) lim∧(acc ++ own ++ l).length+l5.length≤61∧GKept w0 w2 bp v v' w5):=hy5
                 have HN5:Hid (ok=false→Lost res5 (acc ++ own ++ l).length∧Below w0.heap.size w0 w5):=hn5
                 clear hy5 hn5 h5))
             all_goals
              cases ok with
              | true =>
                obtain⟨l5,v5,h51,h52,h53,h54⟩:=HY.out rfl
                have HT5:Hid (za7 (atF (zh ps) f) k full ls (j+1)=some (l ++ l5)):=HSO.out l5 h51
                have HE5:Hid (GEnv w5 bn bp bg mb v5 (acc ++ own ++ (l ++ l5)) lim):=(by rw[Hid,←List.append_assoc];exact h52)
                have HK5:Hid (GKept w0 w bp (.slice va vm vc) v5 w5):=K2.out.trans h54
                have HH5:Hid (w5.heap[hb]? = some (.cells #[.string ⟨t.toArray⟩,.int .i64 k,.string ⟨q.toArray⟩,.slice (some ⟨b2,off2,none⟩) ls.length c1,.string ⟨x.toArray⟩] 97 (0,0))):=(h54.kept hb hb2 (fun e=>by have:=lt_of_block E2.out.box;have:=HHB.out;omega) (fun e=>HVr.out hb e rfl)).trans H2.out
                have HV5:Hid (∀ b,v5.ownBlock=some b→b≠hb):=(fun b hbb e=>by
                 rcases h54.own b hbb with h | h
                 · exact HVr.out b h e
                 · omega)
                have hl5:acc.length+own.length+(l ++ l5).length≤61:=(by simp only[List.length_append] at h53 ⊢;omega)
                clear h51 h52 h53 h54 HY HN5 HSO HLO
                go_wp2
                go_roundw
                case rel=>exact⟨j+1,v5,l ++ l5,by omega,by go_num,HT5,by first | exact HE5.out | exact HE5.out.drew | exact HE5.out.drewN,by first | exact HK5.out | exact HK5.out.drew | exact HK5.out.drewN,HH5,hl5,HV5⟩
                case measure=>simp[intOf];omega
              | false =>
                obtain⟨h51,h52⟩:=HN5.out rfl
                have HR5:Hid (Lost res acc.length):=HLO.out h51
                have HB5:Hid (Below w0.heap.size w0 w5):=h52
                clear h51 h52 HY HN5 HSO HLO
                go_wp2
                go_ret
                exact .inr ⟨rfl,HR5.out,by first | exact HB5.out | exact HB5.out.drew | exact zz HB5.out⟩
         · obtain rfl:j=ls.length:=by omega
           have hji:¬ (ls.length:Int)<(ls.length:Int):=by omega
           have hres:res=some (own ++ l):=by rw[HRK.out,HT.out];rfl
           have HRS:Hid (res=some (own ++ l)):=hres
           clear hres
           go_wp2
           go_ret
           exact .inl ⟨own ++ l,v,rfl,HRS.out,by rw[←List.append_assoc];exact HEr.out,by simp only[List.length_append];omega,HKr.out⟩
     · have HR:Hid (Lost res acc.length):=by
        cases res with
        | none=>exact .inl rfl
        | some l=>exact .inr ⟨l,rfl,by omega⟩
       have hvi:¬ (vm:Int)≤60:=by omega
       have hvd:decide ((60:Int)<(vm:Int))=true:=by simp;omega
       have HE:Hid (GEnv w bn bp bg mb (.slice va vm vc) acc lim):=hE
       clear HRES hf24 hac hE hvm
       go_enter Tryz.func53,Tryz.ntmps53
       go_wp2_with fail
       refine K1.mono ?_
       rintro e w1 h1
       obtain⟨a1,c1,rfl,i1,b1⟩:=HAP.out _ _ _ h1
       have B1:Hid (∀ o,Below w0.heap.size w0 (w1.alloc o)):=fun o=>(hB.trans (b1.mono hB.size)).alloc (Nat.le_trans hB.size b1.size) o
       obtain⟨n0,n1,n2,n3,n4,_⟩:=zd2 (heap_alloc_new w1 (.cells #[.string ⟨t.toArray⟩,.int .i64 k,.string ⟨q.toArray⟩,.slice a1 ls.length c1,.string ⟨x.toArray⟩] 97))
       have cp:=(one_cell (HE.out.below (b1.trans ((Below.refl _ _).alloc b1.size (.cells #[.string ⟨t.toArray⟩,.int .i64 k,.string ⟨q.toArray⟩,.slice a1 ls.length c1,.string ⟨x.toArray⟩] 97)))).box).1
       clear b1 K1 c0 h1 HAP i1 HE
       go_wp2
       go_ret
       exact .inr ⟨rfl,HR.out,B1.out _⟩
   · have HR:Hid (Lost res acc.length):=by
      refine .inl (HRES.out.trans (if_neg ?_))
      simp only[zb2,Bool.and_eq_true,decide_eq_true_eq]
      exact fun h=>hf24 h.1
     have hfi:¬ (full.length:Int)≤24:=by omega
     have hfd:decide ((24:Int)<(full.length:Int))=true:=by simp;omega
     clear HRES hf24
     go_enter Tryz.func53,Tryz.ntmps53
     go_wp2_with fail
     refine K1.mono ?_
     rintro e w1 h1
     obtain⟨a1,c1,rfl,i1,b1⟩:=HAP.out _ _ _ h1
     have B1:Hid (∀ o,Below w0.heap.size w0 (w1.alloc o)):=fun o=>(hB.trans (b1.mono hB.size)).alloc (Nat.le_trans hB.size b1.size) o
     obtain⟨n0,n1,n2,n3,n4,_⟩:=zd2 (heap_alloc_new w1 (.cells #[.string ⟨t.toArray⟩,.int .i64 k,.string ⟨q.toArray⟩,.slice a1 ls.length c1,.string ⟨x.toArray⟩] 97))
     clear b1 K1 c0 h1 HAP i1
     go_wp2
     go_ret
     exact .inr ⟨rfl,HR.out,B1.out _⟩
end Go.Proofs.YtiadimhoolekbaaGreatDoor
