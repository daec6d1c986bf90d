/-
 Contract: Replace of the model (written by mksrep.py).
-/
import Derived.Test.YtlllkdioojjaeaaSActs
import Derived.Test.YtlllkdioojjaeaaMathCs
import Derived.Deep.Cut
namespace Go.Proofs.Ytlllkdioojjaeaa
open Go.RowKit
set_option linter.unusedVariables false
def NowD (w wx:World) (ds:Array Value) (b8:Nat) (r:DskL):Prop :=
 ∃ (x1 x2 x3:Option Addr) (k1 k2 k3:Nat),wx.heap[b8]? = some (.cells #[.slice x1 r.1.length k1,.slice x2 r.2.1.length k2,.slice x3 r.2.2.1.length k3] 31 (0,0))∧IsPairs wx x1 r.1∧IsPairs wx x2 r.2.1∧IsDOps wx x3 r.2.2.1∧AddrOk x1∧AddrOk x2∧w.heap.size+1<b8∧Below w.heap.size w wx∧wx.heap[w.heap.size]? = some (.cells ds 31 (0,0))∧wx.heap[w.heap.size+1]? = some (.cells #[.slice none 0 0,.slice none 0 0,.slice none 0 0] 31 (0,0))
theorem set3D {W:World} {b q0:Nat} {u v x:Value} (h:q0≠b):(((W.setCell ⟨b,0,none⟩ u).setCell ⟨b,1,none⟩ v).setCell ⟨b,2,none⟩ x).heap[q0]? = W.heap[q0]? := by
 rw[Below.heap_setCell _ _ _ _ h,Below.heap_setCell _ _ _ _ h,Below.heap_setCell _ _ _ _ h]
theorem now_step {w W w9:World} {ds:Array Value} {b8:Nat} {r q:DskL} {x1 x2 x3:Option Addr} {k1 k2 k3 l1 l2 l3:Nat} (e1:l1=q.1.length) (e2:l2=q.2.1.length) (e3:l3=q.2.2.1.length) (h:NowD w W ds b8 r) (n1:NewR w9 W.heap.size x1 (pcells q.1)) (n2:NewR w9 W.heap.size x2 (pcells q.2.1)) (n3:NewR w9 W.heap.size x3 (dcells q.2.2.1)) (ad1:AddrOk x1) (ad2:AddrOk x2) (b9:Below W.heap.size W w9) :
 NowD w (((w9.setCell ⟨b8,0,none⟩ (.slice x1 l1 k1)).setCell ⟨b8,1,none⟩ (.slice x2 l2 k2)).setCell ⟨b8,2,none⟩ (.slice x3 l3 k3)) ds b8 q:=by
 obtain⟨y1,y2,y3,z1,z2,z3,h0,_,_,_,_,_,hlt,hb,g0,g1⟩:=h
 have s9:b8<W.heap.size:=lt_of_block h0
 have h9:=(b9.block _ s9).trans h0
 subst e1 e2 e3
 refine⟨x1,x2,x3,k1,k2,k3,dk_set (j:=2) (dk_set (j:=1) (dk_set (j:=0) h9)),(((n1.setCell _ s9 _).setCell _ s9 _).setCell _ s9 _).pairs,(((n2.setCell _ s9 _).setCell _ s9 _).setCell _ s9 _).pairs,(((n3.setCell _ s9 _).setCell _ s9 _).setCell _ s9 _).dops,ad1,ad2,hlt,(((hb.trans (b9.mono hb.size)).setCell (by simp only;omega) _).setCell (by simp only;omega) _).setCell (by simp only;omega) _,?_,?_⟩
 · rw[set3D (by omega)];exact (b9.block _ (lt_of_block g0)).trans g0
 · rw[set3D (by omega)];exact (b9.block _ (lt_of_block g1)).trans g1
theorem copy_postR {w W w9:World} {live safe:List PairL} {ops:List DOpL} {r:DskL} {code:Int} {x1 x2 x3:Option Addr} {k1 k2 k3 hi l1 l2 l3:Nat} {row:Option Nat}
 (he:r=(live,safe,ops,code)) (e1:l1=live.length) (e2:l2=safe.length) (e3:l3=ops.length) (hb:Below w.heap.size w W) (s9:w.heap.size+1<W.heap.size) (hhi:W.heap.size≤hi)
 (n1:NewQ w9 W.heap.size hi x1 (pcells live)) (n2:NewQ w9 W.heap.size hi x2 (pcells safe)) (n3:GrowR w9 hi 40 4 x3 ops.length k3 (dcells ops) row) (ad1:AddrOk x1) (ad2:AddrOk x2) (b9:Below W.heap.size W w9) :
 APost w (((w9.setCell ⟨w.heap.size+1,0,none⟩ (.slice x1 l1 k1)).setCell ⟨w.heap.size+1,1,none⟩ (.slice x2 l2 k2)).setCell ⟨w.heap.size+1,2,none⟩ (.slice x3 l3 k3)) (.returned (.tuple #[.agg #[.slice x1 l1 k1,.slice x2 l2 k2,.slice x3 l3 k3],.int .i64 code])) r:=by
 subst e1 e2 e3
 rw[he]
 have z9:=hb.size
 have t9:w.heap.size+1<hi:=Nat.lt_of_lt_of_le s9 hhi
 exact⟨x1,x2,x3,k1,k2,k3,rfl,(((n1.1.setCell _ s9 _).setCell _ s9 _).setCell _ s9 _).lower (by omega),(((n2.1.setCell _ s9 _).setCell _ s9 _).setCell _ s9 _).lower (by omega),(((n3.new.setCell _ t9 _).setCell _ t9 _).setCell _ t9 _).lower (by omega),ad1,ad2,(((hb.trans (b9.mono hb.size)).setCell (by simp only;omega) _).setCell (by simp only;omega) _).setCell (by simp only;omega) _⟩
theorem fold_len {r:DskL} (h:diskOk r.1 r.2.1 r.2.2.1=true):filesOk r.1=true∧r.1.length≤1048576∧r.2.1.length≤1048576∧r.2.2.1.length≤1048576:=by
 simp only[diskOk,Bool.and_eq_true,decide_eq_true_eq] at h
 obtain⟨h1,h2,h3,_⟩:=h
 have:=(rise_files h1).2.2.1
 have:=(rise_files h2).2.2.1
 exact⟨h1,by omega,by omega,by omega⟩
theorem step_ok {r:DskL} {o:DOpL} (h:r.2.2.2=0→diskOk r.1 r.2.1 r.2.2.1=true):(stepD r o).2.2.2=0→diskOk (stepD r o).1 (stepD r o).2.1 (stepD r o).2.2.1=true:=by
 unfold stepD
 split
 · rename_i hz;exact act_ok (h hz)
 · exact h
set_option maxRecDepth 100000 in
set_option maxHeartbeats 8000000 in
theorem spec_replace (a1 a2 a3 : Option Addr) (c1 c2 c3 : Nat) (live safe : List PairL) (ops : List DOpL) (nm da : List UInt8) (w : World) (ha : AddrOk a1) (ha2 : AddrOk a2) (hl1 : live.length ≤ 1048576) (hm1 : ∀ p ∈ live, p.1.length ≤ 1048576 ∧ p.2.length ≤ 1048576) (hl2 : safe.length ≤ 1048576) (hm2 : ∀ p ∈ safe, p.1.length ≤ 1048576 ∧ p.2.length ≤ 1048576) (hl3 : ops.length ≤ 1048576) (hm3 : ∀ p ∈ ops, p.n.length ≤ 1048576 ∧ p.t.length ≤ 1048576 ∧ p.d.length ≤ 1048576) (hn : nm.length ≤ 1048576) (hd : da.length ≤ 1048576)
 (hs1:IsPairs w a1 live) (hs2:IsPairs w a2 safe) (hs3:IsDOps w a3 ops) :
 Calls Try.prog 32 #[.agg #[.slice a1 live.length c1,.slice a2 safe.length c2,.slice a3 ops.length c3],.string ⟨nm.toArray⟩,.string ⟨da.toArray⟩] w fun e w'=>APost w w' e (repL live safe ops nm da):=by
 obtain⟨wa,hwa⟩:∃ wa,wa=((w.alloc (.cells #[.slice a1 live.length c1,.slice a2 safe.length c2,.slice a3 ops.length c3] 31)).alloc (.cells #[.slice none 0 0,.slice none 0 0,.slice none 0 0] 31)):=⟨_,rfl⟩
 have B0:Below w.heap.size w wa:=by rw[hwa];exact ((Below.refl _ _).alloc (Nat.le_refl _) _).alloc (by simp) _
 have H0:Hid (wa.heap[w.heap.size]? = some (.cells #[.slice a1 live.length c1,.slice a2 safe.length c2,.slice a3 ops.length c3] 31 (0,0))):=by rw[hwa,Hid,Below.heap_alloc _ _ _ (by simp)];exact heap_alloc_new w _
 have R0:Hid (wa.heap[w.heap.size+1]? = some (.cells #[.slice none 0 0,.slice none 0 0,.slice none 0 0] 31 (0,0))):=by
  rw[hwa,Hid]
  have:=heap_alloc_new (w.alloc (.cells #[.slice a1 live.length c1,.slice a2 safe.length c2,.slice a3 ops.length c3] 31)) (.cells #[.slice none 0 0,.slice none 0 0,.slice none 0 0] 31)
  simpa using this
 obtain⟨p0,p1,p2,_⟩:=three_cells H0.out
 have KD:=spec_diskOk a1 a2 a3 c1 c2 c3 live safe ops wa ha2 hl1 hm1 hl2 hm2 hl3 hm3 (hs1.later B0) (hs2.later B0) (hs3.later B0)
 obtain⟨fr,hfr⟩:∃ fr,fr=nm ++ dotNew:=⟨_,rfl⟩
 have hfl:fr.length≤2097152:=by rw[hfr];simp[dotNew];omega
 have hcat:(⟨nm.toArray⟩:ByteArray) ++ ⟨#[46,110,101,119]⟩=⟨fr.toArray⟩:=by rw[hfr];exact cat_bytes nm dotNew
 have hcl:¬ 9223372036854775807<nm.length+4:=by omega
 have HAT:Hid (∀ W,Below w.heap.size w W→_):=fun W hW=>spec_at a1 c1 live fr W (by omega) (hs1.later hW)
 have HKA:Hid (∀ (r:DskL) (k:Int) (n t d:List UInt8) (x1 x2 x3:Option Addr) (k1 k2 k3:Nat) W,diskOk r.1 r.2.1 r.2.2.1=true→n.length≤2097152→t.length≤2097152→d.length≤1048576→AddrOk x1→IsPairs W x1 r.1→IsPairs W x2 r.2.1→IsDOps W x3 r.2.2.1→_):=fun r k n t d x1 x2 x3 k1 k2 k3 W hk h1 h2 h3 h4 h5 h6 h7=>spec_act x1 x2 x3 k1 k2 k3 r.1 r.2.1 r.2.2.1 k n t d W h4 (fold_len hk).1 (fold_len hk).2.2.1 (fold_len hk).2.2.2 h1 h2 h3 h5 h6 h7
 have HKC:Hid (∀ (r:DskL) (x1 x2 x3:Option Addr) (k1 k2 k3:Nat) W,diskOk r.1 r.2.1 r.2.2.1=true→IsPairs W x1 r.1→IsPairs W x2 r.2.1→IsDOps W x3 r.2.2.1→_):=fun r x1 x2 x3 k1 k2 k3 W hk h5 h6 h7=>spec_copy x1 x2 x3 k1 k2 k3 r.1 r.2.1 r.2.2.1 W (fold_len hk).2.1 (fold_len hk).2.2.1 (fold_len hk).2.2.2 h5 h6 h7
 unfold APost at HKA
 unfold CPost at HKC
 have HS:Hid (∀ W,Below w.heap.size w W→IsPairs W a1 live∧IsPairs W a2 safe∧IsDOps W a3 ops):=fun W h=>⟨hs1.later h,hs2.later h,hs3.later h⟩
 have HA:Hid (AddrOk a1∧AddrOk a2∧nm.length≤1048576∧fr.length≤2097152∧da.length≤1048576):=⟨ha,ha2,hn,hfl,hd⟩
 have HR:Hid (repL live safe ops nm da=if diskOk live safe ops=true then repEnd live safe ops (stepD (stepD (if 0≤atF live fr then stepD (live,safe,ops,0) ⟨3,fr,[],[]⟩ else (live,safe,ops,0)) ⟨1,fr,[],da⟩) ⟨2,fr,nm,[]⟩) else ([],[],[],1)):=by
  rw[Hid,repL,←hfr]
  by_cases hz:0≤atF live fr
  · simp only[hz,decide_true,repOps,if_true,←hfr];rfl
  · simp only[hz,decide_false,repOps,if_false,←hfr];rfl
 obtain⟨rr,hrr⟩:∃ x,x=repL live safe ops nm da:=⟨_,rfl⟩
 rw[←hrr] at HR ⊢
 obtain⟨dk,hdk⟩:∃ x,x=diskOk live safe ops:=⟨_,rfl⟩
 have HDK:Hid (dk=diskOk live safe ops):=hdk
 rw[←hdk] at KD HR
 clear hrr hdk hs1 hs2 hs3 hm1 hm2 hm3 ha ha2 hl1 hl2 hl3 hn hd hfr hfl
 rw[hwa] at KD p0 p1 p2
 go_enter Try.func32,Try.ntmps32
 go_wp2_with fail
 refine KD.mono ?_
 rintro e w1 ⟨rfl,b1⟩
 rw[←hwa] at b1
 have B1:Below w.heap.size w w1:=B0.trans (b1.mono B0.size)
 have H1:Hid (w1.heap[w.heap.size]? = some (.cells #[.slice a1 live.length c1,.slice a2 safe.length c2,.slice a3 ops.length c3] 31 (0,0))):=(b1.block _ (lt_of_block H0.out)).trans H0.out
 have R1:Hid (w1.heap[w.heap.size+1]? = some (.cells #[.slice none 0 0,.slice none 0 0,.slice none 0 0] 31 (0,0))):=(b1.block _ (lt_of_block R0.out)).trans R0.out
 clear p0 p1 p2 KD b1 H0 R0 B0 hwa
 cases dk with
 | false =>
   have EQ:Hid (rr=([],[],[],1)):=HR.out
   obtain⟨r0,r1,r2,rf⟩:=three_cells R1.out
   have rf0:=rf 0
   have rf1:=rf 1
   have rf2:=rf 2
   clear rf
   have HY:Hid (_=_):=dk_set (j:=2) (z:=.slice none 0 0) (dk_set (j:=1) (z:=.slice none 0 0) (dk_set (j:=0) (z:=.slice none 0 0) R1.out))
   have HP:Hid (APost w (((w1.setCell ⟨w.heap.size+1,0,none⟩ (.slice none 0 0)).setCell ⟨w.heap.size+1,1,none⟩ (.slice none 0 0)).setCell ⟨w.heap.size+1,2,none⟩ (.slice none 0 0)) (.returned (.tuple #[.agg #[.slice none 0 0,.slice none 0 0,.slice none 0 0],.int .i64 1])) rr):=by
    rw[Hid,EQ.out]
    exact⟨none,none,none,0,0,0,rfl,.inl rfl,.inl rfl,.inl rfl,.inl rfl,.inl rfl,((B1.setCell (by simp only;omega) _).setCell (by simp only;omega) _).setCell (by simp only;omega) _⟩
   clear EQ HR HKA HKC HAT HS HA
   go_wp2
   refine bodyPost_ret (v:=.tuple #[.agg #[.slice none 0 0,.slice none 0 0,.slice none 0 0],.int .i64 1]) (results_disk rfl _ _ (w.heap.size+1) 31 _ (0,0) _ _ rfl HY.out Try.underlying31 rfl (by kernel_rfl) rfl) rfl ?_
   exact HP.out
 | true =>
   obtain⟨hA1,hA2,hN1,hN2,hN3⟩:=HA.out
   have EQ:=HR.out
   simp only[if_true] at EQ
   have HQ:Hid (_=_):=EQ
   clear EQ HR
   obtain⟨p0,p1,p2,_⟩:=three_cells H1.out
   obtain⟨w2,hw2⟩:∃ W,W=w1.alloc (.cells #[.slice a1 live.length c1,.slice a2 safe.length c2,.slice a3 ops.length c3] 31):=⟨_,rfl⟩
   have X2:Below w1.heap.size w1 w2:=by rw[hw2];exact (Below.refl _ _).alloc (Nat.le_refl _) _
   have B2:Below w.heap.size w w2:=B1.trans (X2.mono B1.size)
   have N2:Hid (w2.heap[w1.heap.size]? = some (.cells #[.slice a1 live.length c1,.slice a2 safe.length c2,.slice a3 ops.length c3] 31 (0,0))∧w2.heap[w.heap.size]? = some (.cells #[.slice a1 live.length c1,.slice a2 safe.length c2,.slice a3 ops.length c3] 31 (0,0))∧w2.heap[w.heap.size+1]? = some (.cells #[.slice none 0 0,.slice none 0 0,.slice none 0 0] 31 (0,0))∧w.heap.size+1<w1.heap.size):=⟨by rw[hw2];exact heap_alloc_new w1 _,(X2.block _ (lt_of_block H1.out)).trans H1.out,(X2.block _ (lt_of_block R1.out)).trans R1.out,lt_of_block R1.out⟩
   have KT:=HAT.out w2 B2
   obtain⟨q0,q1,q2,_⟩:=three_cells N2.out.2.1
   rw[hw2] at KT q0 q1 q2
   go_wp2_with fail
   refine KT.mono ?_
   rintro e w3 ⟨rfl,b3⟩
   rw[←hw2] at b3
   clear KT p0 p1 p2 q0 q1 q2 H1 R1 hw2 hcat hcl
   obtain⟨b8,hb8⟩:∃ b,b=w1.heap.size:=⟨_,rfl⟩
   rw[←hb8] at N2 ⊢
   have HN:Hid (NowD w w3 #[.slice a1 live.length c1,.slice a2 safe.length c2,.slice a3 ops.length c3] b8 (live,safe,ops,0)):=by
    obtain⟨n1,n2,n3,n4⟩:=N2.out
    have B3:Below w.heap.size w w3:=B2.trans (b3.mono B2.size)
    exact⟨a1,a2,a3,c1,c2,c3,(b3.block _ (lt_of_block n1)).trans n1,(HS.out _ B3).1,(HS.out _ B3).2.1,(HS.out _ B3).2.2,hA1,hA2,n4,B3,(b3.block _ (lt_of_block n2)).trans n2,(b3.block _ (lt_of_block n3)).trans n3⟩
   clear N2 b3 X2 B2 B1 HAT hb8
   have HD:Hid (diskOk live safe ops=true):=HDK.out.symm
   clear HDK
   obtain⟨az,haz⟩:∃ z,z=atF live fr:=⟨_,rfl⟩
   rw[←haz] at HQ ⊢
   clear haz
   obtain⟨q1,hq1⟩:∃ q:DskL,q=if 0≤az then stepD (live,safe,ops,0) ⟨3,fr,[],[]⟩ else (live,safe,ops,0):=⟨_,rfl⟩
   rw[←hq1] at HQ
   have HQ1:Hid (_=_):=hq1
   have HD1:Hid (q1.2.2.2=0→diskOk q1.1 q1.2.1 q1.2.2.1=true):=by
    rw[Hid,hq1]
    split
    · exact step_ok (fun _=>HD.out)
    · exact fun _=>HD.out
   clear hq1
   obtain⟨q2,hq2⟩:∃ q:DskL,q=stepD q1 ⟨1,fr,[],da⟩:=⟨_,rfl⟩
   rw[←hq2] at HQ
   have HQ2:Hid (_=_):=hq2
   have HD2:Hid (q2.2.2.2=0→diskOk q2.1 q2.2.1 q2.2.2.1=true):=by rw[Hid,hq2];exact step_ok HD1.out
   clear hq2
   obtain⟨q3,hq3⟩:∃ q:DskL,q=stepD q2 ⟨2,fr,nm,[]⟩:=⟨_,rfl⟩
   rw[←hq3] at HQ
   have HQ3:Hid (_=_):=hq3
   have HD3:Hid (q3.2.2.2=0→diskOk q3.1 q3.2.1 q3.2.2.1=true):=by rw[Hid,hq3];exact step_ok HD2.out
   clear hq3
   go_upto_if 22 with fail
   go_cut [9] from 22 (fun v9 wx=>∃ cd:Int,v9=.int .i64 cd∧Hid (cd=q1.2.2.2∧NowD w wx #[.slice a1 live.length c1,.slice a2 safe.length c2,.slice a3 ops.length c3] b8 q1))
   case first =>
    by_cases hz:0≤az
    · have hzb:decide (0≤az)=true:=decide_eq_true hz
      have hdk:diskOk ((live,safe,ops,0):DskL).1 ((live,safe,ops,0):DskL).2.1 ((live,safe,ops,0):DskL).2.2.1=true:=HD.out
      have HE:Hid (q1=actL ((live,safe,ops,0):DskL).1 ((live,safe,ops,0):DskL).2.1 ((live,safe,ops,0):DskL).2.2.1 ⟨3,fr,[],[]⟩):=by rw[Hid,HQ1.out,if_pos hz];rfl
      obtain⟨x1,x2,x3,k1,k2,k3,h0,h1,h2,h3,h4,h5,h6,h7,h8,h9⟩:=HN.out
      have KA:=HKA.out ((live,safe,ops,0):DskL) 3 fr [] [] x1 x2 x3 k1 k2 k3 w3 hdk hN2 (by simp) (by simp) h4 h1 h2 h3
      rw[←HE.out] at KA
      have HB0:Hid (w3.heap[b8]? = _):=h0
      obtain⟨p0,p1,p2,_⟩:=three_cells h0
      clear hdk h0 h1 h2 h3 h4 h5 h6 h7 h8 h9 HE
      simp only at KA p0 p1 p2
      go_wp2_with fail
      refine KA.mono ?_
      rintro e w9 ⟨y1,y2,y3,m1,m2,m3,rfl,n1,n2,n3,ad1,ad2,b9⟩
      clear KA p0 p1 p2
      obtain⟨l1,hl1⟩:∃ x,x=q1.1.length:=⟨_,rfl⟩
      obtain⟨l2,hl2⟩:∃ x,x=q1.2.1.length:=⟨_,rfl⟩
      obtain⟨l3,hl3⟩:∃ x,x=q1.2.2.1.length:=⟨_,rfl⟩
      obtain⟨cd9,hl4⟩:∃ x,x=q1.2.2.2:=⟨_,rfl⟩
      have HL9:Hid (l1=q1.1.length∧l2=q1.2.1.length∧l3=q1.2.2.1.length∧cd9=q1.2.2.2):=⟨hl1,hl2,hl3,hl4⟩
      rw[←hl1,←hl2,←hl3,←hl4]
      clear hl1 hl2 hl3 hl4
      have HN9:=fun e1 e2 e3=>now_step (l1:=l1) (l2:=l2) (l3:=l3) (k1:=m1) (k2:=m2) (k3:=m3) e1 e2 e3 HN.out n1 n2 n3 ad1 ad2 b9
      have HN8:Hid (NowD w (((w9.setCell ⟨b8,0,none⟩ (.slice y1 l1 m1)).setCell ⟨b8,1,none⟩ (.slice y2 l2 m2)).setCell ⟨b8,2,none⟩ (.slice y3 l3 m3)) #[.slice a1 live.length c1,.slice a2 safe.length c2,.slice a3 ops.length c3] b8 q1):=HN9 HL9.out.1 HL9.out.2.1 HL9.out.2.2.1
      have R9:=(b9.block _ (lt_of_block HB0.out)).trans HB0.out
      obtain⟨r0,r1,r2,rf⟩:=three_cells R9
      have rf0:=rf 0
      have rf1:=rf 1
      have rf2:=rf 2
      clear rf
      clear R9 HN9 n1 n2 n3 ad1 ad2 b9 HB0
      go_wp2
      go_meet
      exact⟨cd9,rfl,HL9.out.2.2.2,HN8.out⟩
    · have hzb:decide (0≤az)=false:=decide_eq_false hz
      have HE:Hid (q1=(live,safe,ops,0)):=by rw[Hid,HQ1.out,if_neg hz]
      go_wp2
      go_meet
      exact⟨0,rfl,by rw[HE.out],by rw[HE.out];exact HN.out⟩
   case rest =>
    obtain⟨cd1,rfl,HC1⟩:=hcut
    obtain⟨w4,rfl⟩:∃ W,W=wc:=⟨_,rfl⟩
    have HN4:Hid (NowD w w4 #[.slice a1 live.length c1,.slice a2 safe.length c2,.slice a3 ops.length c3] b8 q1):=HC1.out.2
    have HZ1:Hid (cd1=q1.2.2.2):=HC1.out.1
    clear HC1 HN HQ1
    go_upto_if 31 with fail
    go_cut [9] from 30 (fun v9 wx=>∃ cd:Int,v9=.int .i64 cd∧Hid (cd=q2.2.2.2∧NowD w wx #[.slice a1 live.length c1,.slice a2 safe.length c2,.slice a3 ops.length c3] b8 q2))
    case first =>
     by_cases hz:cd1=0
     · have hzb:(cd1 == 0)=true:=by rw[beq_iff_eq];exact hz
       have hdk:diskOk q1.1 q1.2.1 q1.2.2.1=true:=HD1.out (by rw[←HZ1.out];exact hz)
       have HE:Hid (q2=actL q1.1 q1.2.1 q1.2.2.1 ⟨1,fr,[],da⟩):=by rw[Hid,HQ2.out,stepD,if_pos (by rw[←HZ1.out];exact hz)]
       obtain⟨x1,x2,x3,k1,k2,k3,h0,h1,h2,h3,h4,h5,h6,h7,h8,h9⟩:=HN4.out
       have KA:=HKA.out q1 1 fr [] da x1 x2 x3 k1 k2 k3 w4 hdk hN2 (by simp) hN3 h4 h1 h2 h3
       rw[←HE.out] at KA
       have HB0:Hid (w4.heap[b8]? = _):=h0
       obtain⟨p0,p1,p2,_⟩:=three_cells h0
       clear hdk h0 h1 h2 h3 h4 h5 h6 h7 h8 h9 HE
       skip
       go_wp2_with fail
       refine KA.mono ?_
       rintro e w9 ⟨y1,y2,y3,m1,m2,m3,rfl,n1,n2,n3,ad1,ad2,b9⟩
       clear KA p0 p1 p2
       obtain⟨l1,hl1⟩:∃ x,x=q2.1.length:=⟨_,rfl⟩
       obtain⟨l2,hl2⟩:∃ x,x=q2.2.1.length:=⟨_,rfl⟩
       obtain⟨l3,hl3⟩:∃ x,x=q2.2.2.1.length:=⟨_,rfl⟩
       obtain⟨cd9,hl4⟩:∃ x,x=q2.2.2.2:=⟨_,rfl⟩
       have HL9:Hid (l1=q2.1.length∧l2=q2.2.1.length∧l3=q2.2.2.1.length∧cd9=q2.2.2.2):=⟨hl1,hl2,hl3,hl4⟩
       rw[←hl1,←hl2,←hl3,←hl4]
       clear hl1 hl2 hl3 hl4
       have HN9:=fun e1 e2 e3=>now_step (l1:=l1) (l2:=l2) (l3:=l3) (k1:=m1) (k2:=m2) (k3:=m3) e1 e2 e3 HN4.out n1 n2 n3 ad1 ad2 b9
       have HN8:Hid (NowD w (((w9.setCell ⟨b8,0,none⟩ (.slice y1 l1 m1)).setCell ⟨b8,1,none⟩ (.slice y2 l2 m2)).setCell ⟨b8,2,none⟩ (.slice y3 l3 m3)) #[.slice a1 live.length c1,.slice a2 safe.length c2,.slice a3 ops.length c3] b8 q2):=HN9 HL9.out.1 HL9.out.2.1 HL9.out.2.2.1
       have R9:=(b9.block _ (lt_of_block HB0.out)).trans HB0.out
       obtain⟨r0,r1,r2,rf⟩:=three_cells R9
       have rf0:=rf 0
       have rf1:=rf 1
       have rf2:=rf 2
       clear rf
       clear R9 HN9 n1 n2 n3 ad1 ad2 b9 HB0
       go_wp2
       go_meet
       exact⟨cd9,rfl,HL9.out.2.2.2,HN8.out⟩
     · have hzb:(cd1 == 0)=false:=by rw[beq_eq_false_iff_ne];exact hz
       have HE:Hid (q2=q1):=by rw[Hid,HQ2.out,stepD,if_neg (by rw[←HZ1.out];exact hz)]
       go_wp2
       go_meet
       exact⟨cd1,rfl,by rw[HE.out];exact HZ1.out,by rw[HE.out];exact HN4.out⟩
    case rest =>
     obtain⟨cd2,rfl,HC1⟩:=hcut
     obtain⟨w5,rfl⟩:∃ W,W=wc:=⟨_,rfl⟩
     have HN5:Hid (NowD w w5 #[.slice a1 live.length c1,.slice a2 safe.length c2,.slice a3 ops.length c3] b8 q2):=HC1.out.2
     have HZ2:Hid (cd2=q2.2.2.2):=HC1.out.1
     clear HC1 HN4 HQ2 HZ1
     go_upto_if 41 with fail
     go_cut [9] from 40 (fun v9 wx=>∃ cd:Int,v9=.int .i64 cd∧Hid (cd=q3.2.2.2∧NowD w wx #[.slice a1 live.length c1,.slice a2 safe.length c2,.slice a3 ops.length c3] b8 q3))
     case first =>
      by_cases hz:cd2=0
      · have hzb:(cd2 == 0)=true:=by rw[beq_iff_eq];exact hz
        have hdk:diskOk q2.1 q2.2.1 q2.2.2.1=true:=HD2.out (by rw[←HZ2.out];exact hz)
        have HE:Hid (q3=actL q2.1 q2.2.1 q2.2.2.1 ⟨2,fr,nm,[]⟩):=by rw[Hid,HQ3.out,stepD,if_pos (by rw[←HZ2.out];exact hz)]
        obtain⟨x1,x2,x3,k1,k2,k3,h0,h1,h2,h3,h4,h5,h6,h7,h8,h9⟩:=HN5.out
        have KA:=HKA.out q2 2 fr nm [] x1 x2 x3 k1 k2 k3 w5 hdk hN2 (by omega) (by simp) h4 h1 h2 h3
        rw[←HE.out] at KA
        have HB0:Hid (w5.heap[b8]? = _):=h0
        obtain⟨p0,p1,p2,_⟩:=three_cells h0
        clear hdk h0 h1 h2 h3 h4 h5 h6 h7 h8 h9 HE
        skip
        go_wp2_with fail
        refine KA.mono ?_
        rintro e w9 ⟨y1,y2,y3,m1,m2,m3,rfl,n1,n2,n3,ad1,ad2,b9⟩
        clear KA p0 p1 p2
        obtain⟨l1,hl1⟩:∃ x,x=q3.1.length:=⟨_,rfl⟩
        obtain⟨l2,hl2⟩:∃ x,x=q3.2.1.length:=⟨_,rfl⟩
        obtain⟨l3,hl3⟩:∃ x,x=q3.2.2.1.length:=⟨_,rfl⟩
        obtain⟨cd9,hl4⟩:∃ x,x=q3.2.2.2:=⟨_,rfl⟩
        have HL9:Hid (l1=q3.1.length∧l2=q3.2.1.length∧l3=q3.2.2.1.length∧cd9=q3.2.2.2):=⟨hl1,hl2,hl3,hl4⟩
        rw[←hl1,←hl2,←hl3,←hl4]
        clear hl1 hl2 hl3 hl4
        have HN9:=fun e1 e2 e3=>now_step (l1:=l1) (l2:=l2) (l3:=l3) (k1:=m1) (k2:=m2) (k3:=m3) e1 e2 e3 HN5.out n1 n2 n3 ad1 ad2 b9
        have HN8:Hid (NowD w (((w9.setCell ⟨b8,0,none⟩ (.slice y1 l1 m1)).setCell ⟨b8,1,none⟩ (.slice y2 l2 m2)).setCell ⟨b8,2,none⟩ (.slice y3 l3 m3)) #[.slice a1 live.length c1,.slice a2 safe.length c2,.slice a3 ops.length c3] b8 q3):=HN9 HL9.out.1 HL9.out.2.1 HL9.out.2.2.1
        have R9:=(b9.block _ (lt_of_block HB0.out)).trans HB0.out
        obtain⟨r0,r1,r2,rf⟩:=three_cells R9
        have rf0:=rf 0
        have rf1:=rf 1
        have rf2:=rf 2
        clear rf
        clear R9 HN9 n1 n2 n3 ad1 ad2 b9 HB0
        go_wp2
        go_meet
        exact⟨cd9,rfl,HL9.out.2.2.2,HN8.out⟩
      · have hzb:(cd2 == 0)=false:=by rw[beq_eq_false_iff_ne];exact hz
        have HE:Hid (q3=q2):=by rw[Hid,HQ3.out,stepD,if_neg (by rw[←HZ2.out];exact hz)]
        go_wp2
        go_meet
        exact⟨cd2,rfl,by rw[HE.out];exact HZ2.out,by rw[HE.out];exact HN5.out⟩
     case rest =>
      obtain⟨cd3,rfl,HC1⟩:=hcut
      obtain⟨w6,rfl⟩:∃ W,W=wc:=⟨_,rfl⟩
      have HN6:Hid (NowD w w6 #[.slice a1 live.length c1,.slice a2 safe.length c2,.slice a3 ops.length c3] b8 q3):=HC1.out.2
      have HZ3:Hid (cd3=q3.2.2.2):=HC1.out.1
      clear HC1 HN5 HQ3 HZ2
      obtain⟨x1,x2,x3,k1,k2,k3,h0,h1,h2,h3,h4,h5,h6,h7,h8,h9⟩:=HN6.out
      have H6:Hid (_=_):=h0
      have G6:Hid (_=_):=h8
      have R6:Hid (_=_):=h9
      have B6:=h7
      have s6:=lt_of_block h9
      clear HKA
      by_cases hz:cd3=0
      · have hzb:(cd3 != 0)=false:=by rw[hz];rfl
        have HE:Hid (rr=(q3.1,q3.2.1,q3.2.2.1,0)):=by
         have e1:=HQ.out
         have e2:=HZ3.out
         rw[repEnd,if_pos (by rw[←e2];exact hz)] at e1
         rw[Hid,e1,←hz,e2]
        have KC:=HKC.out q3 x1 x2 x3 k1 k2 k3 w6 (HD3.out (by rw[←HZ3.out];exact hz)) h1 h2 h3
        obtain⟨p0,p1,p2,_⟩:=three_cells h0
        clear h0 h1 h2 h3 h4 h5 h6 h7 h8 h9 HKC HN6 HZ3 HQ
        go_wp2_with fail
        refine KC.mono ?_
        rintro e w9 ⟨y1,y2,y3,m1,m2,m3,hi,row,rfl,hhi,hhj,n1,n2,n3,ad1,ad2,b9⟩
        clear KC p0 p1 p2
        obtain⟨l1,hl1⟩:∃ x,x=q3.1.length:=⟨_,rfl⟩
        obtain⟨l2,hl2⟩:∃ x,x=q3.2.1.length:=⟨_,rfl⟩
        obtain⟨l3,hl3⟩:∃ x,x=q3.2.2.1.length:=⟨_,rfl⟩
        have HP:Hid (APost w (((w9.setCell ⟨w.heap.size+1,0,none⟩ (.slice y1 l1 m1)).setCell ⟨w.heap.size+1,1,none⟩ (.slice y2 l2 m2)).setCell ⟨w.heap.size+1,2,none⟩ (.slice y3 l3 m3)) (.returned (.tuple #[.agg #[.slice y1 l1 m1,.slice y2 l2 m2,.slice y3 l3 m3],.int .i64 0])) rr):=copy_postR (live:=q3.1) (safe:=q3.2.1) (ops:=q3.2.2.1) (HE.out) hl1 hl2 hl3 B6 s6 hhi n1 n2 n3 ad1 ad2 b9
        rw[←hl1,←hl2,←hl3]
        clear hl1 hl2 hl3
        have R9:=(b9.block _ s6).trans R6.out
        obtain⟨r0,r1,r2,rf⟩:=three_cells R9
        have rf0:=rf 0
        have rf1:=rf 1
        have rf2:=rf 2
        clear rf
        have HY:Hid (_=_):=dk_set (j:=2) (z:=.slice y3 l3 m3) (dk_set (j:=1) (z:=.slice y2 l2 m2) (dk_set (j:=0) (z:=.slice y1 l1 m1) R9))
        clear R9 n1 n2 n3 ad1 ad2 b9
        go_wp2
        refine bodyPost_ret (v:=.tuple #[.agg #[.slice y1 l1 m1,.slice y2 l2 m2,.slice y3 l3 m3],.int .i64 0]) (results_disk rfl _ _ (w.heap.size+1) 31 _ (0,0) _ _ rfl HY.out Try.underlying31 rfl (by kernel_rfl) rfl) rfl ?_
        exact HP.out
      · have hzb:(cd3 != 0)=true:=by rw[bne_iff_ne];exact hz
        have HE:Hid (rr=(live,safe,ops,cd3)):=by
         have e1:=HQ.out
         have e2:=HZ3.out
         rw[repEnd,if_neg (by rw[←e2];exact hz)] at e1
         rw[Hid,e1,e2]
        have KC:=HKC.out (live,safe,ops,0) a1 a2 a3 c1 c2 c3 w6 HD.out (HS.out _ B6).1 (HS.out _ B6).2.1 (HS.out _ B6).2.2
        simp only at KC
        obtain⟨p0,p1,p2,_⟩:=three_cells h8
        clear h0 h1 h2 h3 h4 h5 h6 h7 h8 h9 HKC HN6 HZ3 HQ
        go_wp2_with fail
        refine KC.mono ?_
        rintro e w9 ⟨y1,y2,y3,m1,m2,m3,hi,row,rfl,hhi,hhj,n1,n2,n3,ad1,ad2,b9⟩
        clear KC p0 p1 p2
        obtain⟨l1,hl1⟩:∃ x,x=live.length:=⟨_,rfl⟩
        obtain⟨l2,hl2⟩:∃ x,x=safe.length:=⟨_,rfl⟩
        obtain⟨l3,hl3⟩:∃ x,x=ops.length:=⟨_,rfl⟩
        have HP:Hid (APost w (((w9.setCell ⟨w.heap.size+1,0,none⟩ (.slice y1 l1 m1)).setCell ⟨w.heap.size+1,1,none⟩ (.slice y2 l2 m2)).setCell ⟨w.heap.size+1,2,none⟩ (.slice y3 l3 m3)) (.returned (.tuple #[.agg #[.slice y1 l1 m1,.slice y2 l2 m2,.slice y3 l3 m3],.int .i64 cd3])) rr):=copy_postR (live:=live) (safe:=safe) (ops:=ops) (HE.out) hl1 hl2 hl3 B6 s6 hhi n1 n2 n3 ad1 ad2 b9
        rw[←hl1,←hl2,←hl3]
        clear hl1 hl2 hl3
        have R9:=(b9.block _ s6).trans R6.out
        obtain⟨r0,r1,r2,rf⟩:=three_cells R9
        have rf0:=rf 0
        have rf1:=rf 1
        have rf2:=rf 2
        clear rf
        have HY:Hid (_=_):=dk_set (j:=2) (z:=.slice y3 l3 m3) (dk_set (j:=1) (z:=.slice y2 l2 m2) (dk_set (j:=0) (z:=.slice y1 l1 m1) R9))
        clear R9 n1 n2 n3 ad1 ad2 b9
        go_wp2
        refine bodyPost_ret (v:=.tuple #[.agg #[.slice y1 l1 m1,.slice y2 l2 m2,.slice y3 l3 m3],.int .i64 cd3]) (results_disk rfl _ _ (w.heap.size+1) 31 _ (0,0) _ _ rfl HY.out Try.underlying31 rfl (by kernel_rfl) rfl) rfl ?_
        exact HP.out
end Go.Proofs.Ytlllkdioojjaeaa
