/-
 Contracts: ReadFile of the model and of the program.
-/
import Derived.Test.YtlllkdioojjaeaaIDiskOk
import Derived.Test.YtlllkdioojjaeaaSRch
namespace Go.Proofs.Ytlllkdioojjaeaa
open Go.RowKit
set_option linter.unusedVariables false
def readB (live safe:List PairL) (ops:List DOpL) (nm:List UInt8):Bool:=diskOk live safe ops && decide (0≤atF live nm)
def readR (live safe:List PairL) (ops:List DOpL) (nm:List UInt8):List UInt8:=if readB live safe ops nm=true then datF live nm else []
set_option maxRecDepth 100000 in
set_option maxHeartbeats 2000000 in
theorem spec_readFile (a1 a2 a3:Option Addr) (c1 c2 c3:Nat) (live safe:List PairL) (ops:List DOpL) (nm:List UInt8) (w:World) (ha:AddrOk a2) (hl1:live.length≤1048576) (hm1:∀ p∈live,p.1.length≤1048576∧p.2.length≤1048576) (hl2:safe.length≤1048576) (hm2:∀ p∈safe,p.1.length≤1048576∧p.2.length≤1048576) (hl3:ops.length≤1048576) (hm3:∀ p∈ops,p.n.length≤1048576∧p.t.length≤1048576∧p.d.length≤1048576) (hnm:nm.length≤1048576)
 (hs1:IsPairs w a1 live) (hs2:IsPairs w a2 safe) (hs3:IsDOps w a3 ops) :
 Calls Try.prog 30 #[.agg #[.slice a1 live.length c1,.slice a2 safe.length c2,.slice a3 ops.length c3],.string ⟨nm.toArray⟩] w fun e w'=>e=.returned (.tuple #[.string ⟨(readR live safe ops nm).toArray⟩,.bool (readB live safe ops nm)])∧Below w.heap.size w w':=by
 have B0:Below w.heap.size w (w.alloc (.cells #[.slice a1 live.length c1,.slice a2 safe.length c2,.slice a3 ops.length c3] 31)):=(Below.refl _ _).alloc (Nat.le_refl _) _
 have H0:Hid ((w.alloc (.cells #[.slice a1 live.length c1,.slice a2 safe.length c2,.slice a3 ops.length c3] 31)).heap[w.heap.size]? = some (.cells #[.slice a1 live.length c1,.slice a2 safe.length c2,.slice a3 ops.length c3] 31 (0,0))):=heap_alloc_new w _
 obtain⟨p0,p1,p2,_⟩:=three_cells H0.out
 have KD:=spec_diskOk a1 a2 a3 c1 c2 c3 live safe ops (w.alloc (.cells #[.slice a1 live.length c1,.slice a2 safe.length c2,.slice a3 ops.length c3] 31)) ha hl1 hm1 hl2 hm2 hl3 hm3 (hs1.later B0) (hs2.later B0) (hs3.later B0)
 have HKA:Hid (∀ W,Below w.heap.size w W→_):=fun W hW=>spec_at a1 c1 live nm W (by omega) (hs1.later hW)
 have HS1:Hid (∀ W,Below w.heap.size w W→IsPairs W a1 live):=fun W h=>hs1.later h
 have HRB:Hid (readB live safe ops nm=(diskOk live safe ops && decide (0≤atF live nm))):=rfl
 have HRR:Hid (readR live safe ops nm=if readB live safe ops nm=true then datF live nm else []):=rfl
 obtain⟨dk,hdk⟩:∃ dk,dk=diskOk live safe ops:=⟨_,rfl⟩
 obtain⟨rb,hrb⟩:∃ rb,rb=readB live safe ops nm:=⟨_,rfl⟩
 obtain⟨rr,hrr⟩:∃ rr,rr=readR live safe ops nm:=⟨_,rfl⟩
 rw[←hdk] at KD HRB
 rw[←hrb] at HRB HRR ⊢
 rw[←hrr] at HRR ⊢
 clear hs1 hs2 hs3 hm1 hm2 hm3 hdk hrb hrr
 go_enter Try.func30,Try.ntmps30
 go_wp2_with fail
 refine KD.mono ?_
 rintro e w1 ⟨rfl,b1⟩
 have B1:=B0.trans (b1.mono B0.size)
 have H1:Hid (w1.heap[w.heap.size]? = some (.cells #[.slice a1 live.length c1,.slice a2 safe.length c2,.slice a3 ops.length c3] 31 (0,0))):=(b1.block _ (lt_of_block H0.out)).trans H0.out
 clear p0 p1 p2 KD b1 H0 B0
 obtain⟨p0,p1,p2,_⟩:=three_cells H1.out
 cases dk with
 | false =>
   have e1:rb=false:=by rw[HRB.out];rfl
   have e2:rr=[]:=by rw[HRR.out,e1];rfl
   subst e1 e2
   clear HRB HRR
   go_wp2
   go_ret2
   exact⟨rfl,B1⟩
 | true =>
   have KA:=HKA.out w1 B1
   have HR:=atF_range live nm
   have HDF:Hid (datF live nm=if 0≤atF live nm then valAt live (atF live nm).toNat else []):=rfl
   obtain⟨at0,hat0⟩:∃ at0,at0=atF live nm:=⟨_,rfl⟩
   rw[←hat0] at KA HR HDF HRB
   clear hat0 HKA
   go_wp2_with fail
   refine KA.mono ?_
   rintro e w2 ⟨rfl,b2⟩
   have B2:=B1.trans (b2.mono B1.size)
   have H2:Hid (w2.heap[w.heap.size]? = some (.cells #[.slice a1 live.length c1,.slice a2 safe.length c2,.slice a3 ops.length c3] 31 (0,0))):=(b2.block _ (lt_of_block H1.out)).trans H1.out
   clear p0 p1 p2 KA b2 H1 B1
   obtain⟨p0,p1,p2,_⟩:=three_cells H2.out
   rcases HR with rfl | ⟨j,hj,rfl⟩
   · have e1:rb=false:=by rw[HRB.out];rfl
     have e2:rr=[]:=by rw[HRR.out,e1];rfl
     subst e1 e2
     clear HRB HRR HDF
     go_wp2
     go_ret2
     exact⟨rfl,B2⟩
   · have hj0:(0:Int)≤(j:Int):=by omega
     have hjn:¬ (j:Int)<0:=by omega
     have hj1:(j:Int)<(live.length:Int):=by omega
     have e1:rb=true:=by rw[HRB.out,decide_eq_true hj0];rfl
     have e2:rr=valAt live j:=by rw[HRR.out,e1,if_pos rfl,HDF.out,if_pos hj0];simp
     obtain⟨b,off,rfl,hc⟩:∃ b off,a1=some ⟨b,off,none⟩∧w2.cell? ⟨b,off+j*2+1,none⟩=some (.string ⟨(valAt live j).toArray⟩):=by
      rcases HS1.out w2 B2 with h | ⟨b,off,h1,h2⟩
      · rw[h] at hj;simp at hj
      · exact⟨b,off,h1,by rw[valAt_lt live j hj];exact (h2 j hj).2⟩
     rw[←e2] at hc
     clear HRB HRR HDF e2 HS1
     subst e1
     go_wp2
     go_ret2
     exact⟨rfl,B2⟩
set_option maxRecDepth 100000 in
set_option maxHeartbeats 2000000 in
theorem impl_readFile (a1 a2 a3:Option Addr) (c1 c2 c3:Nat) (live safe:List PairL) (ops:List DOpL) (nm:List UInt8) (w:World) (ha:AddrOk a1) (hl1:live.length≤1048576) (hm1:∀ p∈live,p.1.length≤1048576∧p.2.length≤1048576) (hl2:safe.length≤1048576) (hm2:∀ p∈safe,p.1.length≤1048576∧p.2.length≤1048576) (hl3:ops.length≤1048576) (hm3:∀ p∈ops,p.n.length≤1048576∧p.t.length≤1048576∧p.d.length≤1048576) (hnm:nm.length≤1048576)
 (hs1:IsPairs w a1 live) (hs2:IsPairs w a2 safe) (hs3:IsDOps w a3 ops) :
 Calls Try.prog 31 #[.agg #[.slice a1 live.length c1,.slice a2 safe.length c2,.slice a3 ops.length c3],.string ⟨nm.toArray⟩] w fun e w'=>e=.returned (.tuple #[.string ⟨(readR live safe ops nm).toArray⟩,.bool (readB live safe ops nm)])∧Below w.heap.size w w':=by
 have B0:Below w.heap.size w (w.alloc (.cells #[.slice a1 live.length c1,.slice a2 safe.length c2,.slice a3 ops.length c3] 31)):=(Below.refl _ _).alloc (Nat.le_refl _) _
 have H0:Hid ((w.alloc (.cells #[.slice a1 live.length c1,.slice a2 safe.length c2,.slice a3 ops.length c3] 31)).heap[w.heap.size]? = some (.cells #[.slice a1 live.length c1,.slice a2 safe.length c2,.slice a3 ops.length c3] 31 (0,0))):=heap_alloc_new w _
 obtain⟨p0,p1,p2,_⟩:=three_cells H0.out
 have KD:=impl_diskOk a1 a2 a3 c1 c2 c3 live safe ops (w.alloc (.cells #[.slice a1 live.length c1,.slice a2 safe.length c2,.slice a3 ops.length c3] 31)) hl1 hm1 hl2 hm2 hl3 hm3 (hs1.later B0) (hs2.later B0) (hs3.later B0)
 have HKA:Hid (∀ W,Below w.heap.size w W→_):=fun W hW=>impl_dataOf a1 ha c1 live nm W (by omega) (hs1.later hW)
 have HRB:Hid (readB live safe ops nm=(diskOk live safe ops && decide (0≤atF live nm))):=rfl
 have HRR:Hid (readR live safe ops nm=if readB live safe ops nm=true then datF live nm else []):=rfl
 have HRI:Hid (diskOk live safe ops=true→Rise live):=fun h=>by
  simp only[diskOk,Bool.and_eq_true] at h
  exact (rise_files h.1).1
 obtain⟨dk,hdk⟩:∃ dk,dk=diskOk live safe ops:=⟨_,rfl⟩
 obtain⟨rb,hrb⟩:∃ rb,rb=readB live safe ops nm:=⟨_,rfl⟩
 obtain⟨rr,hrr⟩:∃ rr,rr=readR live safe ops nm:=⟨_,rfl⟩
 rw[←hdk] at KD HRB HRI
 rw[←hrb] at HRB HRR ⊢
 rw[←hrr] at HRR ⊢
 clear hs1 hs2 hs3 hm1 hm2 hm3 hdk hrb hrr
 go_enter Try.func31,Try.ntmps31
 go_wp2_with fail
 refine KD.mono ?_
 rintro e w1 ⟨rfl,b1⟩
 have B1:=B0.trans (b1.mono B0.size)
 have H1:Hid (w1.heap[w.heap.size]? = some (.cells #[.slice a1 live.length c1,.slice a2 safe.length c2,.slice a3 ops.length c3] 31 (0,0))):=(b1.block _ (lt_of_block H0.out)).trans H0.out
 clear p0 p1 p2 KD b1 H0 B0
 obtain⟨p0,p1,p2,_⟩:=three_cells H1.out
 cases dk with
 | false =>
   have e1:rb=false:=by rw[HRB.out];rfl
   have e2:rr=[]:=by rw[HRR.out,e1];rfl
   subst e1 e2
   clear HRB HRR HRI
   go_wp2
   go_ret2
   exact⟨rfl,B1⟩
 | true =>
   have HRL:Hid (Rise live):=HRI.out (by first | rfl | trivial)
   have KA:=HKA.out w1 B1
   clear HKA
   go_wp2_with fail
   refine KA.mono ?_
   rintro e w2 ⟨r,b,rfl,hrb,b2⟩
   have B2:=B1.trans (b2.mono B1.size)
   obtain⟨h1,h2⟩:=hrb HRL.out
   have e1:rb=b:=by rw[HRB.out,h1];rfl
   have e2:rr=r:=by
    rw[HRR.out,e1,h1]
    by_cases h0:0≤atF live nm
    · rw[decide_eq_true h0,if_pos rfl,h2]
    · rw[decide_eq_false h0,h2,datF,if_neg h0];rfl
   subst e1 e2
   clear HRB HRR HRI h1 h2 hrb KA b2 p0 p1 p2
   go_wp2
   go_ret2
   exact⟨rfl,B2⟩
end Go.Proofs.Ytlllkdioojjaeaa
