/-
 Contract: Do of the model; its files may be appended to (written by mkg.py).
-/
import Derived.Test.YtlllkdioojjaeaaSActG
namespace Go.Proofs.Ytlllkdioojjaeaa
open Go.RowKit
set_option linter.unusedVariables false
set_option maxRecDepth 100000 in
set_option maxHeartbeats 8000000 in
theorem spec_doXG (a1 a2 a3:Option Addr) (c1 c2 c3:Nat) (live safe:List PairL) (ops:List DOpL) (k:Int) (n t d:List UInt8) (w:World) (ha:AddrOk a1) (ha2:AddrOk a2) (hl1:live.length≤1048576) (hm1:∀ p∈live,p.1.length≤1048576∧p.2.length≤1048576) (hl2:safe.length≤1048576) (hm2:∀ p∈safe,p.1.length≤1048576∧p.2.length≤1048576) (hl3:ops.length≤1048576) (hm3:∀ p∈ops,p.n.length≤1048576∧p.t.length≤1048576∧p.d.length≤1048576) (hn:n.length≤2097152) (ht:t.length≤2097152) (hd:d.length≤1048576)
 (hs1:IsPairs w a1 live) (hs2:IsPairs w a2 safe) (hs3:IsDOps w a3 ops) :
 Calls Try.prog 18 #[.agg #[.slice a1 live.length c1,.slice a2 safe.length c2,.slice a3 ops.length c3],.agg #[.int .i64 k,.string ⟨n.toArray⟩,.string ⟨t.toArray⟩,.string ⟨d.toArray⟩]] w fun e w'=>APostG w w' e (doL live safe ops ⟨k,n,t,d⟩):=by
 obtain⟨wa,hwa⟩:∃ wa,wa=(((w.alloc (.cells #[.slice a1 live.length c1,.slice a2 safe.length c2,.slice a3 ops.length c3] 31)).alloc (.cells #[.int .i64 k,.string ⟨n.toArray⟩,.string ⟨t.toArray⟩,.string ⟨d.toArray⟩] 40)).alloc (.cells #[.slice none 0 0,.slice none 0 0,.slice none 0 0] 31)):=⟨_,rfl⟩
 have B0:Below w.heap.size w wa:=by rw[hwa];exact (((Below.refl _ _).alloc (Nat.le_refl _) _).alloc (by simp) _).alloc (by simp <;> omega) _
 have H0:Hid (wa.heap[w.heap.size]? = some (.cells #[.slice a1 live.length c1,.slice a2 safe.length c2,.slice a3 ops.length c3] 31 (0,0))):=by rw[hwa,Hid,Below.heap_alloc _ _ _ (by simp <;> omega),Below.heap_alloc _ _ _ (by simp)];exact heap_alloc_new w _
 have O0:Hid (wa.heap[(w.heap.size+1)]? = some (.cells #[.int .i64 k,.string ⟨n.toArray⟩,.string ⟨t.toArray⟩,.string ⟨d.toArray⟩] 40 (0,0))):=by
  rw[hwa,Hid,Below.heap_alloc _ _ _ (by simp)]
  have:=heap_alloc_new (w.alloc (.cells #[.slice a1 live.length c1,.slice a2 safe.length c2,.slice a3 ops.length c3] 31)) (.cells #[.int .i64 k,.string ⟨n.toArray⟩,.string ⟨t.toArray⟩,.string ⟨d.toArray⟩] 40)
  simpa using this
 have R0:Hid (wa.heap[(w.heap.size+1+1)]? = some (.cells #[.slice none 0 0,.slice none 0 0,.slice none 0 0] 31 (0,0))):=by
  rw[hwa,Hid]
  have:=heap_alloc_new ((w.alloc (.cells #[.slice a1 live.length c1,.slice a2 safe.length c2,.slice a3 ops.length c3] 31)).alloc (.cells #[.int .i64 k,.string ⟨n.toArray⟩,.string ⟨t.toArray⟩,.string ⟨d.toArray⟩] 40)) (.cells #[.slice none 0 0,.slice none 0 0,.slice none 0 0] 31)
  simpa using this
 obtain⟨p0,p1,p2,_⟩:=three_cells H0.out
 obtain⟨o0,o1,o2,o3,_⟩:=four_cells O0.out
 have KD:=spec_diskOk a1 a2 a3 c1 c2 c3 live safe ops wa ha2 hl1 hm1 hl2 hm2 hl3 hm3 (hs1.later B0) (hs2.later B0) (hs3.later B0)
 have HKA:Hid (∀ W,Below w.heap.size w W→filesOk live=true→Calls Try.prog 55 #[.agg #[.slice a1 live.length c1,.slice a2 safe.length c2,.slice a3 ops.length c3],.agg #[.int .i64 k,.string ⟨n.toArray⟩,.string ⟨t.toArray⟩,.string ⟨d.toArray⟩]] W fun e w'=>APostG W w' e (actL live safe ops ⟨k,n,t,d⟩)):=fun W hW hf=>spec_actG a1 a2 a3 c1 c2 c3 live safe ops k n t d W ha hf hl2 hl3 hn ht hd (hs1.later hW) (hs2.later hW) (hs3.later hW)
 unfold APostG at HKA
 have HFL:Hid (diskOk live safe ops=true→filesOk live=true):=fun h=>by cases h1:filesOk live with | true=>rfl | false=>rw[disk_no1 h1] at h;cases h
 have HR:Hid (doL live safe ops ⟨k,n,t,d⟩=if diskOk live safe ops=true then actL live safe ops ⟨k,n,t,d⟩ else ([],[],[],1)):=rfl
 obtain⟨r,hr⟩:∃ r,r=doL live safe ops ⟨k,n,t,d⟩:=⟨_,rfl⟩
 rw[←hr] at HR ⊢
 obtain⟨dk,hdk⟩:∃ x,x=diskOk live safe ops:=⟨_,rfl⟩
 rw[←hdk] at KD HFL HR
 obtain⟨ra,hra⟩:∃ x,x=actL live safe ops ⟨k,n,t,d⟩:=⟨_,rfl⟩
 rw[←hra] at HKA HR
 clear hr hdk hra hs1 hs2 hs3 hm1 hm2 hm3 ha ha2 hl1 hl2 hl3 hn ht hd
 rw[hwa] at KD p0 p1 p2 o0 o1 o2 o3
 go_enter Try.func18,Try.ntmps18
 go_wp2_with fail
 refine KD.mono ?_
 rintro e w1 ⟨rfl,b1⟩
 rw[←hwa] at b1
 have B1:Below w.heap.size w w1:=B0.trans (b1.mono B0.size)
 have H1:Hid (w1.heap[w.heap.size]? = some (.cells #[.slice a1 live.length c1,.slice a2 safe.length c2,.slice a3 ops.length c3] 31 (0,0))):=(b1.block _ (lt_of_block H0.out)).trans H0.out
 have O1:Hid (w1.heap[(w.heap.size+1)]? = some (.cells #[.int .i64 k,.string ⟨n.toArray⟩,.string ⟨t.toArray⟩,.string ⟨d.toArray⟩] 40 (0,0))):=(b1.block _ (lt_of_block O0.out)).trans O0.out
 have R1:Hid (w1.heap[(w.heap.size+1+1)]? = some (.cells #[.slice none 0 0,.slice none 0 0,.slice none 0 0] 31 (0,0))):=(b1.block _ (lt_of_block R0.out)).trans R0.out
 clear p0 p1 p2 o0 o1 o2 o3 KD b1 H0 O0 R0 B0 hwa
 cases dk with
 | false =>
   have EQ:Hid (r=([],[],[],1)):=HR.out
   have R9:Hid (w1.heap[(w.heap.size+1+1)]? = some (.cells #[.slice none 0 0,.slice none 0 0,.slice none 0 0] 31 (0,0))):=R1
   obtain⟨r0,r1,r2,rf⟩:=three_cells R9.out
   have rf0:=rf 0
   have rf1:=rf 1
   have rf2:=rf 2
   have y1:=dk_set (j:=0) (z:=.slice none 0 0) R9.out
   have y2:=dk_set (j:=1) (z:=.slice none 0 0) y1
   have y3:=dk_set (j:=2) (z:=.slice none 0 0) y2
   have HY:Hid (_=_):=y3
   have HP:Hid (APostG w (((w1.setCell ⟨w.heap.size+1+1,0,none⟩ (.slice none 0 0)).setCell ⟨w.heap.size+1+1,1,none⟩ (.slice none 0 0)).setCell ⟨w.heap.size+1+1,2,none⟩ (.slice none 0 0)) (.returned (.tuple #[.agg #[.slice none 0 0,.slice none 0 0,.slice none 0 0],.int .i64 1])) r):=by
    rw[Hid,EQ.out]
    exact⟨none,none,none,0,0,0,rfl,.inl rfl,.inl rfl,.inl rfl,.inl rfl,.inl rfl,((B1.setCell (by simp only;omega) _).setCell (by simp only;omega) _).setCell (by simp only;omega) _,fun h=>absurd h (by decide)⟩
   clear y1 y2 y3 rf
   clear EQ HR HKA HFL
   go_wp2
   refine bodyPost_ret (v:=.tuple #[.agg #[.slice none 0 0,.slice none 0 0,.slice none 0 0],.int .i64 1]) (results_disk rfl _ _ (w.heap.size+1+1) 31 _ (0,0) _ _ rfl HY.out Try.underlying31 rfl (by kernel_rfl) rfl) rfl ?_
   exact HP.out
 | true =>
   have EQ:Hid (r=ra):=HR.out
   have KA:=HKA.out w1 B1 (HFL.out rfl)
   obtain⟨p0,p1,p2,_⟩:=three_cells H1.out
   obtain⟨o0,o1,o2,o3,_⟩:=four_cells O1.out
   clear HR HKA HFL
   go_wp2_with fail
   refine KA.mono ?_
   rintro e w9 ⟨x1,x2,x3,k1,k2,k3,rfl,n1,n2,n3,ad1,ad2,b9,hx9⟩
   have R9:Hid (w9.heap[(w.heap.size+1+1)]? = some (.cells #[.slice none 0 0,.slice none 0 0,.slice none 0 0] 31 (0,0))):=(b9.block _ (lt_of_block R1.out)).trans R1.out
   have s9:(w.heap.size+1+1)<w1.heap.size:=lt_of_block R1.out
   clear KA p0 p1 p2 o0 o1 o2 o3
   obtain⟨l1,hq1⟩:∃ x,x=ra.1.length:=⟨_,rfl⟩
   obtain⟨l2,hq2⟩:∃ x,x=ra.2.1.length:=⟨_,rfl⟩
   obtain⟨l3,hq3⟩:∃ x,x=ra.2.2.1.length:=⟨_,rfl⟩
   obtain⟨cd,hq4⟩:∃ x,x=ra.2.2.2:=⟨_,rfl⟩
   have HQ:Hid (l1=ra.1.length∧l2=ra.2.1.length∧l3=ra.2.2.1.length∧cd=ra.2.2.2):=⟨hq1,hq2,hq3,hq4⟩
   rw[←hq1,←hq2,←hq3,←hq4]
   clear hq1 hq2 hq3 hq4
   obtain⟨r0,r1,r2,rf⟩:=three_cells R9.out
   have rf0:=rf 0
   have rf1:=rf 1
   have rf2:=rf 2
   have y1:=dk_set (j:=0) (z:=.slice x1 l1 k1) R9.out
   have y2:=dk_set (j:=1) (z:=.slice x2 l2 k2) y1
   have y3:=dk_set (j:=2) (z:=.slice x3 l3 k3) y2
   have HY:Hid (_=_):=y3
   have HP:Hid (APostG w (((w9.setCell ⟨w.heap.size+1+1,0,none⟩ (.slice x1 l1 k1)).setCell ⟨w.heap.size+1+1,1,none⟩ (.slice x2 l2 k2)).setCell ⟨w.heap.size+1+1,2,none⟩ (.slice x3 l3 k3)) (.returned (.tuple #[.agg #[.slice x1 l1 k1,.slice x2 l2 k2,.slice x3 l3 k3],.int .i64 cd])) r):=by
    have z9:=B1.size
    rw[Hid,EQ.out]
    obtain⟨e1,e2,e3,e4⟩:=HQ.out
    exact⟨x1,x2,x3,k1,k2,k3,by rw[e1,e2,e3,e4],(((n1.setCell _ s9 _).setCell _ s9 _).setCell _ s9 _).lower (by omega),(((n2.setCell _ s9 _).setCell _ s9 _).setCell _ s9 _).lower (by omega),(((n3.setCell _ s9 _).setCell _ s9 _).setCell _ s9 _).lower (by omega),ad1,ad2,(((B1.trans (b9.mono B1.size)).setCell (by simp only;omega) _).setCell (by simp only;omega) _).setCell (by simp only;omega) _,fun h=>by
    obtain⟨h1,h2,h3,row9,h4,h5⟩:=hx9 h
    exact⟨h1,h2,h3,row9,(((h4.setCell _ s9 _).setCell _ s9 _).setCell _ s9 _).lower (by omega),h5⟩⟩
   clear y1 y2 y3 rf
   clear EQ n1 n2 n3 b9 ad1 ad2 HQ hx9
   go_wp2
   refine bodyPost_ret (v:=.tuple #[.agg #[.slice x1 l1 k1,.slice x2 l2 k2,.slice x3 l3 k3],.int .i64 cd]) (results_disk rfl _ _ (w.heap.size+1+1) 31 _ (0,0) _ _ rfl HY.out Try.underlying31 rfl (by kernel_rfl) rfl) rfl ?_
   exact HP.out
end Go.Proofs.Ytlllkdioojjaeaa
