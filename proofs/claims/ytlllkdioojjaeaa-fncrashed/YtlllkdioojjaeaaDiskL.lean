/-
 Contracts of the laws' own helpers on disks: sizes, copies, equal ones; a disk that came in (written by mkdiskl.py).
-/
import Derived.Test.YtlllkdioojjaeaaFileS
import Derived.Test.YtlllkdioojjaeaaDOpS
import Derived.Test.YtlllkdioojjaeaaSDiskOk
import Derived.Test.YtlllkdioojjaeaaRows
import Derived.ProofKit
import Derived.Deep.SlicePairs
import Derived.Lib.SmallJoins
namespace Go.Proofs.Ytlllkdioojjaeaa
open Go.ChangeShapes Go.WideShapes Go.ChangeAt Go.RowKit
set_option linter.unusedVariables false
set_option maxRecDepth 100000 in
set_option maxHeartbeats 400000 in
theorem szFileS_gen (L : Nat) (hL : L ≤ 1048576) (a : Option Addr) (cap : Nat) (ps : List PairL) (w : World) (hl : ps.length ≤ 9223372036854775807) (hm : ∀ p ∈ ps, p.1.length ≤ 9223372036854775807 ∧ p.2.length ≤ 9223372036854775807) (hs : IsPairs w a ps) :
 Calls Try.prog 39 #[.slice a ps.length cap,.int .i64 (L:Int)] w fun e w'=>(e=.returned (.int .i64 (-1))∨(ps.length+sizeP ps≤L∧∃ n:Nat,n≤L∧e=.returned (.int .i64 (n:Int))))∧Below w.heap.size w w':=by
 by_cases hb:ps.length≤L
 · rcases hs with rfl | ⟨b, off, rfl, hc⟩
   · go_enter Try.func39,Try.ntmps39
     go_wp2
     refine wp_loop_rounds 1 ?_
     rw[rounds_succ]
     go_wp2
     go_ret
     exact⟨.inr ⟨by simp[sizeP],L,Nat.le_refl _,rfl⟩,Below.refl _ _⟩
   · have hm' : ∀ j (h : j < ps.length), ps[j].1.length ≤ 9223372036854775807 ∧ ps[j].2.length ≤ 9223372036854775807 := fun j h => hm _ (List.getElem_mem _)
     clear hm
     go_enter Try.func39,Try.ntmps39
     go_wp2
     go_loopw [1,5] (fun v i wr=>∃ j q:Nat,j≤ps.length∧i=.int .i64 (j:Int)∧v=.int .i64 (q:Int)∧q+ps.length+sizeP (ps.take j)=L∧Below w.heap.size w wr) (fun _ i _=>ps.length - (intOf i).toNat)
     case atStart=>exact⟨0,L - ps.length,Nat.zero_le _,rfl,by simp;omega,by simp[sizeP];omega,Below.refl _ _⟩
     case round =>
      obtain⟨j,q,hj,rfl,rfl,hq,hbel⟩:=hrel
      have hsz:=hbel.size
      by_cases hlt:j<ps.length
      · have c1:=(hbel.cell (p:=⟨b,off+j*2,none⟩) (World.block_lt_of_cell? w _ (hc j hlt).1)).trans (hc j hlt).1
        have c2:=(hbel.cell (p:=⟨b,off+j*2+1,none⟩) (World.block_lt_of_cell? w _ (hc j hlt).2)).trans (hc j hlt).2
        have m1:=hm' j hlt
        have HS:Hid (sizeP (ps.take (j+1))=sizeP (ps.take j)+(ps[j].1.length+ps[j].2.length)):=sizeP_snoc ps j hlt
        have hj0:(0:Int)≤(j:Int):=by omega
        have hj1:(j:Int)<(ps.length:Int):=by omega
        have hqs:q≤1048576:=by omega
        have HQ:Hid (q+ps.length+sizeP (ps.take j)=L):=hq
        obtain⟨x,hx⟩:∃ x,x=ps[j].1:=⟨_,rfl⟩
        obtain⟨y,hy⟩:∃ y,y=ps[j].2:=⟨_,rfl⟩
        rw[←hx] at c1 m1 HS
        rw[←hy] at c2 m1 HS
        have K:=fun W=>szFile_any x y q W hqs m1.1 m1.2
        clear hc hm' hx hy hq m1
        go_wp2_with fail
        refine (K _).mono ?_
        rintro e w1 ⟨he,b1⟩
        have B1:=hbel.trans (b1.mono hsz)
        clear K b1 hbel
        rcases he with ⟨hn,rfl⟩ | ⟨hn,rfl⟩
        · go_wp2
          go_ret
          exact⟨.inl rfl,B1⟩
        · go_wp2
          go_roundw
          case rel=>exact⟨j+1,_,by omega,by go_num,rfl,by have:=HS.out;have:=HQ.out;omega,B1⟩
          case measure=>simp[intOf];omega
      · have hjl:j=ps.length:=by omega
        subst hjl
        have HQ:Hid (ps.length+sizeP ps≤L):=by rw[Hid];rw[List.take_length] at hq;omega
        have HQL:Hid (q≤L):=by rw[Hid];omega
        clear hq
        go_wp2
        go_ret
        exact⟨.inr ⟨HQ.out,q,HQL.out,rfl⟩,hbel⟩
 · have hb':¬ (ps.length:Int)≤L:=by omega
   clear hs hm
   go_enter Try.func39,Try.ntmps39
   go_wp2
   go_ret
   exact⟨.inl rfl,Below.refl _ _⟩
def bytesFl:Value→List UInt8
 | .string s=>s.data.toList
 | _=>[]
set_option maxRecDepth 100000 in
theorem files_of {H:Type} {enc:TypeId × Value→H} {W:World} {fuel:Nat} {u:Value} {y:DataW H × List MemPlace} (hf:DataW.trod enc Try.prog W 0 (fun _=>true) true fuel 22 [u]=some y) :
 ∃ (a:Option Addr) (ps:List PairL) (cap:Nat),u=.slice a ps.length cap∧(∀ p∈ps,p.1.length≤9223372036854775807∧p.2.length≤9223372036854775807)∧IsPairs W a ps∧ps.length≤9223372036854775807:=by
 rcases Go.Deep.open_slice_pairs Try.underlying22 Try.underlying105 (by kernel_rfl) rfl rfl (by kernel_rfl) (by kernel_rfl) hf with ⟨hcs,_⟩ | ⟨a,len,cap,m,n,V0,V1,D0,D1,P0,P1,hcs,_,hl,hm,hmm,_,hx⟩
 · simp at hcs
   exact⟨none,[],0,hcs,by simp,.inl rfl,by simp⟩
 · simp at hcs
   unfold maxLen at hm
   simp only[if_true] at hmm
   have each:∀ i,i<len→W.cell? (a.add (i*2))=some (.string ⟨(bytesFl (V0 i)).toArray⟩)∧W.cell? (a.add (i*2+1))=some (.string ⟨(bytesFl (V1 i)).toArray⟩)∧(bytesFl (V0 i)).length≤9223372036854775807∧(bytesFl (V1 i)).length≤9223372036854775807:=by
    intro i hi
    obtain⟨e0,e1,t0,t1⟩:=hx i (by omega)
    obtain⟨s0,hs0,_,w0⟩:=DataW.trod_string Try.underlying9 t0
    obtain⟨s1,hs1,_,w1⟩:=DataW.trod_string Try.underlying9 t1
    simp at hs0 hs1
    unfold maxLen at w0 w1
    rw[hs0] at e0 ⊢
    rw[hs1] at e1 ⊢
    refine⟨by rw[e0];simp[bytesFl],by rw[e1];simp[bytesFl],?_,?_⟩
    · simp only[bytesFl,Array.length_toList];exact w0
    · simp only[bytesFl,Array.length_toList];exact w1
   refine⟨some a,(List.range len).map (fun i=>(bytesFl (V0 i),bytesFl (V1 i))),cap,by rw[hcs];simp,?_,?_,by simp;omega⟩
   · intro p hp
     simp only[List.mem_map,List.mem_range] at hp
     obtain⟨i,hi,rfl⟩:=hp
     exact⟨(each i hi).2.2.1,(each i hi).2.2.2⟩
   · by_cases h0:len=0
     · exact .inl (by simp[h0])
     · obtain⟨b,off,spot⟩:=a
       have hc:=(each 0 (by omega)).1
       have hspot:spot=none:=by simpa [Addr.add] using World.cell?_spot hc
       subst hspot
       refine .inr ⟨b,off,rfl,fun j hj=>?_⟩
       simp at hj
       have hcj:=each j hj
       have e1:(⟨b,off,none⟩:Addr).add (j*2)=⟨b,off+j*2,none⟩:=by simp[Addr.add]
       have e2:(⟨b,off,none⟩:Addr).add (j*2+1)=⟨b,off+j*2+1,none⟩:=by simp[Addr.add,Nat.add_assoc]
       rw[e1,e2] at hcj
       simp only[List.getElem_map,List.getElem_range]
       exact⟨hcj.1,hcj.2.1⟩
set_option maxRecDepth 100000 in
theorem dops_of {H : Type} {enc : TypeId × Value → H} {W : World} {fuel : Nat} {u : Value} {y : DataW H × List MemPlace} (hf : DataW.trod enc Try.prog W 0 (fun _ => true) true fuel 23 [u] = some y) :
 ∃ (a:Option Addr) (ps:List DOpL) (cap:Nat),u=.slice a ps.length cap∧(∀ p∈ps,p.n.length≤9223372036854775807∧p.t.length≤9223372036854775807∧p.d.length≤9223372036854775807)∧IsDOps W a ps∧ps.length≤9223372036854775807:=by
 rcases Go.Deep.open_slice Try.underlying23 hf with ⟨hcs,_⟩ | ⟨a,len,cap,m,n,D,Pl,hcs,_,hl,hm,hmm,_,hx⟩
 · simp at hcs
   exact⟨none,[],0,hcs,by simp,.inl rfl,by simp⟩
 · simp at hcs
   unfold maxLen at hm
   simp only[if_true] at hmm
   have ce:Try.prog.cellsOf 36=4:=by kernel_rfl
   have each : ∀ i, ∃ q : DOpL, i < len → W.cell? (a.add (i * 4)) = some (.int .i64 q.k) ∧ W.cell? (a.add (i * 4 + 1)) = some (.string ⟨q.n.toArray⟩) ∧ W.cell? (a.add (i * 4 + 2)) = some (.string ⟨q.t.toArray⟩) ∧ W.cell? (a.add (i * 4 + 3)) = some (.string ⟨q.d.toArray⟩) ∧ q.n.length ≤ 9223372036854775807 ∧ q.t.length ≤ 9223372036854775807 ∧ q.d.length ≤ 9223372036854775807 := by
    intro i
    by_cases hi:i<len
    · obtain⟨cs',h1,h2⟩:=hx i (by omega)
      rw[ce] at h1
      obtain⟨_,hlen,hcell⟩:=World.cells?_some h1
      obtain⟨xs,k,hk,hxy,_,hxl,hf⟩:=DataW.trod_struct Try.underlying36 h2
      match xs,hxl,cs',hlen with
      | [y0, y1, y2, y3], _, [v0, v1, v2, v3], _ =>
        have g0:=hf 0 _ rfl
        have g1:=hf 1 _ rfl
        have g2:=hf 2 _ rfl
        have g3:=hf 3 _ rfl
        have k0:Try.prog.cellsOf 9=1:=by kernel_rfl
        have k1:Try.prog.cellsOf 2=1:=by kernel_rfl
        simp[k0,k1] at g0 g1 g2 g3
        have e0:=hcell 0 (by omega)
        have e1:=hcell 1 (by omega)
        have e2:=hcell 2 (by omega)
        have e3:=hcell 3 (by omega)
        rw[Go.Deep.add_add] at e0 e1 e2 e3
        obtain⟨s0,hs0,_,_⟩:=DataW.trod_int Try.underlying2 g0
        obtain⟨s1,hs1,_,w1⟩:=DataW.trod_string Try.underlying9 g1
        obtain⟨s2,hs2,_,w2⟩:=DataW.trod_string Try.underlying9 g2
        obtain⟨s3,hs3,_,w3⟩:=DataW.trod_string Try.underlying9 g3
        simp at hs0 hs1 hs2 hs3
        subst hs0 hs1 hs2 hs3
        unfold maxLen at w1 w2 w3
        refine⟨⟨s0,s1.data.toList,s2.data.toList,s3.data.toList⟩,fun _=>⟨by simpa using e0,by simpa using e1,by simpa using e2,by simpa using e3,?_,?_,?_⟩⟩
        · simp only[Array.length_toList];exact w1
        · simp only[Array.length_toList];exact w2
        · simp only[Array.length_toList];exact w3
    · exact⟨⟨0,[],[],[]⟩,fun h=>absurd h hi⟩
   obtain⟨q,hq⟩:=Classical.skolem.1 each
   refine⟨some a,(List.range len).map q,cap,by rw[hcs];simp,?_,?_,by simp;omega⟩
   · intro p hp
     simp only[List.mem_map,List.mem_range] at hp
     obtain⟨i,hi,rfl⟩:=hp
     exact (hq i hi).2.2.2.2
   · by_cases h0:len=0
     · exact .inl (by simp[h0])
     · obtain⟨b,off,spot⟩:=a
       have hc:=(hq 0 (by omega)).1
       have hspot:spot=none:=by simpa [Addr.add] using World.cell?_spot hc
       subst hspot
       refine .inr ⟨b,off,rfl,fun j hj=>?_⟩
       simp at hj
       have hcj:=hq j hj
       have e1:(⟨b,off,none⟩:Addr).add (j*4)=⟨b,off+j*4,none⟩:=by simp[Addr.add]
       have e2:(⟨b,off,none⟩:Addr).add (j*4+1)=⟨b,off+j*4+1,none⟩:=by simp[Addr.add,Nat.add_assoc]
       have e3:(⟨b,off,none⟩:Addr).add (j*4+2)=⟨b,off+j*4+2,none⟩:=by simp[Addr.add,Nat.add_assoc]
       have e4:(⟨b,off,none⟩:Addr).add (j*4+3)=⟨b,off+j*4+3,none⟩:=by simp[Addr.add,Nat.add_assoc]
       rw[e1,e2,e3,e4] at hcj
       simp only[List.getElem_map,List.getElem_range]
       exact⟨hcj.1,hcj.2.1,hcj.2.2.1,hcj.2.2.2.1⟩
set_option maxRecDepth 100000 in
theorem disk_of {H:Type} {enc:TypeId × Value→H} {W:World} {r:Reach} {b0:Nat} {v:Value} {d:DataW H} {p:List MemPlace} (hv:Value.okWide Try.prog W r b0 25 v) (h:DataW.Trod enc Try.prog W 0 (fun _=>true) true 25 v d p) :
 ∃ (a1 a2 a3:Option Addr) (c1 c2 c3:Nat) (live safe:List PairL) (ops:List DOpL),v=.agg #[.slice a1 live.length c1,.slice a2 safe.length c2,.slice a3 ops.length c3]∧(IsPairs W a1 live∧live.length≤9223372036854775807∧∀ p∈live,p.1.length≤9223372036854775807∧p.2.length≤9223372036854775807)∧(IsPairs W a2 safe∧safe.length≤9223372036854775807∧∀ p∈safe,p.1.length≤9223372036854775807∧p.2.length≤9223372036854775807)∧(IsDOps W a3 ops∧ops.length≤9223372036854775807∧∀ p∈ops,p.n.length≤9223372036854775807∧p.t.length≤9223372036854775807∧p.d.length≤9223372036854775807):=by
 obtain⟨u0,u1,u2,y0,y1,y2,n,rfl,_,_,t0,t1,t2⟩:=Go.Joins.open_agg3 Try.underlying25 (by kernel_rfl) (by kernel_rfl) hv h
 obtain⟨a1,live,c1,rfl,m1,i1,l1⟩:=files_of t0
 obtain⟨a2,safe,c2,rfl,m2,i2,l2⟩:=files_of t1
 obtain⟨a3,ops,c3,rfl,m3,i3,l3⟩:=dops_of t2
 exact⟨a1,a2,a3,c1,c2,c3,live,safe,ops,rfl,⟨i1,l1,m1⟩,⟨i2,l2,m2⟩,⟨i3,l3,m3⟩⟩
theorem dk_set {w:World} {b j:Nat} {u v x z:Value} {t:TypeId} (h:w.heap[b]? = some (.cells #[u,v,x] t (0,0))):(w.setCell ⟨b,j,none⟩ z).heap[b]? = some (.cells (#[u,v,x].setIfInBounds j z) t (0,0)):=by
 have hlt:=lt_of_block h
 have h':w.heap[b]=.cells #[u,v,x] t (0,0):=by simpa [Array.getElem?_eq_getElem hlt] using h
 show (w.heap.modify b _)[b]? = _
 rw[Array.getElem?_eq_getElem (by simpa using hlt),Array.getElem_modify_self,h']
 rfl
set_option maxRecDepth 100000 in
set_option maxHeartbeats 1000000 in
theorem szDisk_any (L:Nat) (hL:L≤1048576) (a1 a2 a3:Option Addr) (c1 c2 c3:Nat) (live safe:List PairL) (ops:List DOpL) (w:World) (hl1:live.length≤9223372036854775807) (hl2:safe.length≤9223372036854775807) (hl3:ops.length≤9223372036854775807) (hm1:∀ p∈live,p.1.length≤9223372036854775807∧p.2.length≤9223372036854775807) (hm2:∀ p∈safe,p.1.length≤9223372036854775807∧p.2.length≤9223372036854775807) (hm3:∀ p∈ops,p.n.length≤9223372036854775807∧p.t.length≤9223372036854775807∧p.d.length≤9223372036854775807) (hs1:IsPairs w a1 live) (hs2:IsPairs w a2 safe) (hs3:IsDOps w a3 ops) :
 Calls Try.prog 12 #[.agg #[.slice a1 live.length c1,.slice a2 safe.length c2,.slice a3 ops.length c3],.int .i64 (L:Int)] w fun e w'=>(e=.returned (.int .i64 (-1))∨(live.length+sizeP live≤L∧safe.length+sizeP safe≤L∧ops.length+sizeD ops≤L∧∃ n:Nat,n≤L∧e=.returned (.int .i64 (n:Int))))∧Below w.heap.size w w':=by
 have B0:Below w.heap.size w (w.alloc (.cells #[.slice a1 live.length c1,.slice a2 safe.length c2,.slice a3 ops.length c3] 25)):=(Below.refl _ _).alloc (Nat.le_refl _) _
 have H0:Hid ((w.alloc (.cells #[.slice a1 live.length c1,.slice a2 safe.length c2,.slice a3 ops.length c3] 25)).heap[w.heap.size]? = some (.cells #[.slice a1 live.length c1,.slice a2 safe.length c2,.slice a3 ops.length c3] 25 (0,0))):=heap_alloc_new w _
 obtain⟨p0,p1,p2,_⟩:=three_cells H0.out
 have K:=szFileS_gen L hL a1 c1 live _ hl1 hm1 (hs1.later B0)
 have HK2:Hid (∀ q W,q≤1048576→Below w.heap.size w W→_):=fun q W hq hW=>szFileS_gen q hq a2 c2 safe W hl2 hm2 (hs2.later hW)
 have HK3:Hid (∀ q W,q≤1048576→Below w.heap.size w W→_):=fun q W hq hW=>szDOpS_gen q hq a3 c3 ops W hl3 hm3 (hs3.later hW)
 clear hs1 hs2 hs3 hm1 hm2 hm3
 go_enter Try.func12,Try.ntmps12
 go_wp2_with fail
 refine K.mono ?_
 rintro e w1 ⟨he,b1⟩
 have B1:=B0.trans (b1.mono B0.size)
 rcases he with rfl | ⟨hsz,n,hn,rfl⟩
 · go_wp2
   go_ret
   exact⟨.inl rfl,B1⟩
 · have HA1:Hid (live.length+sizeP live≤L∧n≤L):=⟨hsz,hn⟩
   have hn0:(0:Int)≤(n:Int):=by omega
   have K2:=HK2.out n w1 (by omega) B1
   have H1:Hid (w1.heap[w.heap.size]? = some (.cells #[.slice a1 live.length c1,.slice a2 safe.length c2,.slice a3 ops.length c3] 25 (0,0))):=(b1.block w.heap.size (by simp)).trans H0.out
   clear hsz hn K b1 p0 p1 p2
   obtain⟨p0,p1,p2,_⟩:=three_cells H1.out
   go_wp2_with fail
   refine K2.mono ?_
   rintro e w2 ⟨he,b2⟩
   have B2:=B1.trans (b2.mono B1.size)
   rcases he with rfl | ⟨hsz,n2,hn2,rfl⟩
   · go_wp2
     go_ret
     exact⟨.inl rfl,B2⟩
   · have HA2:Hid (safe.length+sizeP safe≤L∧n2≤L):=by have:=HA1.out;exact⟨by omega,by omega⟩
     have hn20:(0:Int)≤(n2:Int):=by omega
     have K3:=HK3.out n2 w2 (by have:=HA2.out;omega) B2
     have H2:Hid (w2.heap[w.heap.size]? = some (.cells #[.slice a1 live.length c1,.slice a2 safe.length c2,.slice a3 ops.length c3] 25 (0,0))):=(b2.block w.heap.size (lt_of_block H1.out)).trans H1.out
     clear hsz hn2 K2 b2 p0 p1 p2
     obtain⟨p0,p1,p2,_⟩:=three_cells H2.out
     go_wp2_with fail
     refine K3.mono ?_
     rintro e w3 ⟨he,b3⟩
     have B3:=B2.trans (b3.mono B2.size)
     rcases he with rfl | ⟨hsz,n3,hn3,rfl⟩
     · go_wp2
       go_ret
       exact⟨.inl rfl,B3⟩
     · have HA3:Hid (ops.length+sizeD ops≤L∧n3≤L):=by have:=HA2.out;exact⟨by omega,by omega⟩
       have hn30:(0:Int)≤(n3:Int):=by omega
       clear hsz hn3 K3 b3 p0 p1 p2
       go_wp2
       go_ret
       exact⟨.inr ⟨HA1.out.1,HA2.out.1,HA3.out.1,n3,HA3.out.2,rfl⟩,B3⟩
set_option maxRecDepth 100000 in
set_option maxHeartbeats 4000000 in
theorem toDisk_any (a1 a2 a3:Option Addr) (c1 c2 c3:Nat) (live safe:List PairL) (ops:List DOpL) (w:World) (hl1:live.length≤1048576) (hl2:safe.length≤1048576) (hl3:ops.length≤1048576) (hs1:IsPairs w a1 live) (hs2:IsPairs w a2 safe) (hs3:IsDOps w a3 ops) :
 Calls Try.prog 14 #[.agg #[.slice a1 live.length c1,.slice a2 safe.length c2,.slice a3 ops.length c3]] w fun e w'=>∃ g1 g2 g3:Nat,e=.returned (.agg #[.slice (some ⟨g1,0,none⟩) live.length live.length,.slice (some ⟨g2,0,none⟩) safe.length safe.length,.slice (some ⟨g3,0,none⟩) ops.length ops.length])∧g1<g2∧g2<g3∧w'.ownsRow w.heap.size 84 2 (.slice (some ⟨g1,0,none⟩) live.length live.length) live.length (pcells live)∧w'.ownsRow w.heap.size 84 2 (.slice (some ⟨g2,0,none⟩) safe.length safe.length) safe.length (pcells safe)∧w'.ownsRow w.heap.size 40 4 (.slice (some ⟨g3,0,none⟩) ops.length ops.length) ops.length (dcells ops)∧Below w.heap.size w w':=by
 obtain⟨wa,hwa⟩:∃ wa,wa=((w.alloc (.cells #[.slice a1 live.length c1,.slice a2 safe.length c2,.slice a3 ops.length c3] 25)).alloc (.cells #[.slice none 0 0,.slice none 0 0,.slice none 0 0] 31)).alloc (.cells #[.slice none 0 0,.slice none 0 0,.slice none 0 0] 31):=⟨_,rfl⟩
 have Ba:Below w.heap.size w wa:=by rw[hwa];exact (((Below.refl _ _).alloc (Nat.le_refl _) _).alloc (by simp) _).alloc (by simp;omega) _
 have sa:wa.heap.size=w.heap.size+3:=by rw[hwa];simp
 have a0:wa.heap[w.heap.size]? = some (.cells #[.slice a1 live.length c1,.slice a2 safe.length c2,.slice a3 ops.length c3] 25 (0,0)):=by rw[hwa,Below.heap_alloc _ _ _ (by simp;omega),Below.heap_alloc _ _ _ (by simp)];exact heap_alloc_new w _
 have a1':wa.heap[w.heap.size+1]? = some (.cells #[.slice none 0 0,.slice none 0 0,.slice none 0 0] 31 (0,0)):=by
  rw[hwa,Below.heap_alloc _ _ _ (by simp)]
  have:=heap_alloc_new (w.alloc (.cells #[.slice a1 live.length c1,.slice a2 safe.length c2,.slice a3 ops.length c3] 25)) (.cells #[.slice none 0 0,.slice none 0 0,.slice none 0 0] 31)
  simpa using this
 have a2':wa.heap[w.heap.size+2]? = some (.cells #[.slice none 0 0,.slice none 0 0,.slice none 0 0] 31 (0,0)):=by
  rw[hwa]
  have:=heap_alloc_new ((w.alloc (.cells #[.slice a1 live.length c1,.slice a2 safe.length c2,.slice a3 ops.length c3] 25)).alloc (.cells #[.slice none 0 0,.slice none 0 0,.slice none 0 0] 31)) (.cells #[.slice none 0 0,.slice none 0 0,.slice none 0 0] 31)
  rw[show ((w.alloc (.cells #[.slice a1 live.length c1,.slice a2 safe.length c2,.slice a3 ops.length c3] 25)).alloc (.cells #[.slice none 0 0,.slice none 0 0,.slice none 0 0] 31)).heap.size=w.heap.size+2 by simp] at this
  exact this
 have K1:=toFileS_any a1 c1 live wa hl1 (hs1.later Ba)
 rw[sa] at K1
 rw[hwa] at K1
 have HS2:Hid (∀ W,Below w.heap.size w W→IsPairs W a2 safe):=fun W hW=>hs2.later hW
 have HS3:Hid (∀ W,Below w.heap.size w W→IsDOps W a3 ops):=fun W hW=>hs3.later hW
 clear hs1 hs2 hs3
 go_enter Try.func14,Try.ntmps14
 go_wp2_with fail
 refine K1.mono ?_
 rintro e w1 ⟨rfl,o1,b1⟩
 rw[←hwa] at b1
 clear K1 hwa
 have hb1:Below wa.heap.size wa w1:=by rw[sa];exact b1
 have B1:=Ba.trans (hb1.mono (by omega))
 have e0:=(hb1.block (w.heap.size) (by omega)).trans a0
 have e1:=(hb1.block (w.heap.size+1) (by omega)).trans a1'
 have e2:=(hb1.block (w.heap.size+2) (by omega)).trans a2'
 have O1:=hidOwn o1
 have s1:w.heap.size+3<w1.heap.size:=by have:=own_lt o1;omega
 have B1s:Below w.heap.size w (w1.setCell ⟨w.heap.size+1+1,0,none⟩ (.slice (some ⟨w.heap.size+3,0,none⟩) live.length live.length)):=B1.setCell (by simp;omega) _
 have sz1:(w1.setCell ⟨w.heap.size+1+1,0,none⟩ (.slice (some ⟨w.heap.size+3,0,none⟩) live.length live.length)).heap.size=w1.heap.size:=by simp
 have K2:=toFileS_any a2 c2 safe (w1.setCell ⟨w.heap.size+1+1,0,none⟩ (.slice (some ⟨w.heap.size+3,0,none⟩) live.length live.length)) hl2 (HS2.out _ B1s)
 rw[sz1] at K2
 obtain⟨p0,p1,p2,_⟩:=three_cells e0
 obtain⟨r0,r1,r2,rf⟩:=three_cells e2
 have rf0:=rf 0
 have E0:Hid ((w1.setCell ⟨w.heap.size+1+1,0,none⟩ (.slice (some ⟨w.heap.size+3,0,none⟩) live.length live.length)).heap[w.heap.size]? = _):=(Below.heap_setCell _ _ _ _ (by simp;omega)).trans e0
 have E1:Hid ((w1.setCell ⟨w.heap.size+1+1,0,none⟩ (.slice (some ⟨w.heap.size+3,0,none⟩) live.length live.length)).heap[w.heap.size+1]? = _):=(Below.heap_setCell _ _ _ _ (by simp)).trans e1
 have E2:Hid ((w1.setCell ⟨w.heap.size+1+1,0,none⟩ (.slice (some ⟨w.heap.size+3,0,none⟩) live.length live.length)).heap[w.heap.size+1+1]? = some (.cells #[(.slice (some ⟨w.heap.size+3,0,none⟩) live.length live.length),.slice none 0 0,.slice none 0 0] 31 (0,0))):=dk_set (j:=0) e2
 have O1s:Hid ((w1.setCell ⟨w.heap.size+1+1,0,none⟩ (.slice (some ⟨w.heap.size+3,0,none⟩) live.length live.length)).ownsRow (w.heap.size+3) 84 2 (.slice (some ⟨w.heap.size+3,0,none⟩) live.length live.length) live.length (pcells live)):=ownsRow_setCell_other O1.out (by simp[Value.ownBlock]) _
 clear a0 a1' a2' b1 hb1 Ba rf o1 sa e0 e1 e2 O1 HS2
 go_wp2_with fail
 refine K2.mono ?_
 rintro e w2 ⟨rfl,o2,b2⟩
 have b2':Below (w1.setCell ⟨w.heap.size+1+1,0,none⟩ (.slice (some ⟨w.heap.size+3,0,none⟩) live.length live.length)).heap.size (w1.setCell ⟨w.heap.size+1+1,0,none⟩ (.slice (some ⟨w.heap.size+3,0,none⟩) live.length live.length)) w2:=by rw[sz1];exact b2
 have B2:=B1s.trans (b2'.mono B1s.size)
 have f0:=(b2.block w.heap.size (by omega)).trans E0.out
 have f1:=(b2.block (w.heap.size+1) (by omega)).trans E1.out
 have f2:=(b2.block (w.heap.size+1+1) (by omega)).trans E2.out
 have O12:=hidOwn (kept2 O1s.out b2')
 have O2:=hidOwn o2
 have s2:w1.heap.size<w2.heap.size:=own_lt o2
 have B2s:Below w.heap.size w (w2.setCell ⟨w.heap.size+1+1,1,none⟩ (.slice (some ⟨w1.heap.size,0,none⟩) safe.length safe.length)):=B2.setCell (by simp;omega) _
 have sz2:(w2.setCell ⟨w.heap.size+1+1,1,none⟩ (.slice (some ⟨w1.heap.size,0,none⟩) safe.length safe.length)).heap.size=w2.heap.size:=by simp
 have K3:=toDOpS_any a3 c3 ops (w2.setCell ⟨w.heap.size+1+1,1,none⟩ (.slice (some ⟨w1.heap.size,0,none⟩) safe.length safe.length)) hl3 (HS3.out _ B2s)
 rw[sz2] at K3
 clear K2 E0 E1 E2 O1s b2 b2' B1s B1 o2 r0 r1 r2 rf0 p0 p1 p2 sz1 HS3
 obtain⟨p0,p1,p2,_⟩:=three_cells f0
 obtain⟨r0,r1,r2,rf⟩:=three_cells f2
 have rf1:=rf 1
 have E0:Hid ((w2.setCell ⟨w.heap.size+1+1,1,none⟩ (.slice (some ⟨w1.heap.size,0,none⟩) safe.length safe.length)).heap[w.heap.size]? = _):=(Below.heap_setCell _ _ _ _ (by simp;omega)).trans f0
 have E1:Hid ((w2.setCell ⟨w.heap.size+1+1,1,none⟩ (.slice (some ⟨w1.heap.size,0,none⟩) safe.length safe.length)).heap[w.heap.size+1]? = _):=(Below.heap_setCell _ _ _ _ (by simp)).trans f1
 have E2:Hid ((w2.setCell ⟨w.heap.size+1+1,1,none⟩ (.slice (some ⟨w1.heap.size,0,none⟩) safe.length safe.length)).heap[w.heap.size+1+1]? = some (.cells #[(.slice (some ⟨w.heap.size+3,0,none⟩) live.length live.length),(.slice (some ⟨w1.heap.size,0,none⟩) safe.length safe.length),.slice none 0 0] 31 (0,0))):=dk_set (j:=1) f2
 have O12s:Hid ((w2.setCell ⟨w.heap.size+1+1,1,none⟩ (.slice (some ⟨w1.heap.size,0,none⟩) safe.length safe.length)).ownsRow (w.heap.size+3) 84 2 (.slice (some ⟨w.heap.size+3,0,none⟩) live.length live.length) live.length (pcells live)):=ownsRow_setCell_other O12.out (by simp[Value.ownBlock]) _
 have O2s:Hid ((w2.setCell ⟨w.heap.size+1+1,1,none⟩ (.slice (some ⟨w1.heap.size,0,none⟩) safe.length safe.length)).ownsRow w1.heap.size 84 2 (.slice (some ⟨w1.heap.size,0,none⟩) safe.length safe.length) safe.length (pcells safe)):=ownsRow_setCell_other O2.out (by simp[Value.ownBlock];omega) _
 clear f0 f1 f2 rf O12 O2 B2
 go_wp2_with fail
 refine K3.mono ?_
 rintro e w3 ⟨rfl,o3,b3⟩
 have b3':Below (w2.setCell ⟨w.heap.size+1+1,1,none⟩ (.slice (some ⟨w1.heap.size,0,none⟩) safe.length safe.length)).heap.size (w2.setCell ⟨w.heap.size+1+1,1,none⟩ (.slice (some ⟨w1.heap.size,0,none⟩) safe.length safe.length)) w3:=by rw[sz2];exact b3
 have B3:=B2s.trans (b3'.mono B2s.size)
 have f1:=(b3.block (w.heap.size+1) (by omega)).trans E1.out
 have f2:=(b3.block (w.heap.size+1+1) (by omega)).trans E2.out
 have O13:=hidOwn (kept2 O12s.out b3')
 have O23:=hidOwn (kept2 O2s.out b3')
 have O3:=hidOwn o3
 have s3:w2.heap.size<w3.heap.size:=own_lt o3
 clear K3 E0 E1 E2 O12s O2s b3 b3' B2s o3 r0 r1 r2 rf1 p0 p1 p2 sz2
 obtain⟨r0,r1,r2,rf⟩:=three_cells f2
 obtain⟨q0,q1,q2,qf⟩:=three_cells f1
 have rf2:=rf 2
 have qf0:=qf 0
 have qf1:=qf 1
 have qf2:=qf 2
 have k1:(w3.setCell ⟨w.heap.size+1+1,2,none⟩ (.slice (some ⟨w2.heap.size,0,none⟩) ops.length ops.length)).heap[w.heap.size+1]? = _:=(Below.heap_setCell _ _ _ _ (by simp)).trans f1
 have y1:=dk_set (j:=0) (z:=(.slice (some ⟨w.heap.size+3,0,none⟩) live.length live.length)) k1
 have y2:=dk_set (j:=1) (z:=(.slice (some ⟨w1.heap.size,0,none⟩) safe.length safe.length)) y1
 have y3:=dk_set (j:=2) (z:=(.slice (some ⟨w2.heap.size,0,none⟩) ops.length ops.length)) y2
 have HY:Hid (_=_):=y3
 have HR1:Hid (((((w3.setCell ⟨w.heap.size+1+1,2,none⟩ (.slice (some ⟨w2.heap.size,0,none⟩) ops.length ops.length)).setCell ⟨w.heap.size+1,0,none⟩ (.slice (some ⟨w.heap.size+3,0,none⟩) live.length live.length)).setCell ⟨w.heap.size+1,1,none⟩ (.slice (some ⟨w1.heap.size,0,none⟩) safe.length safe.length)).setCell ⟨w.heap.size+1,2,none⟩ (.slice (some ⟨w2.heap.size,0,none⟩) ops.length ops.length)).ownsRow w.heap.size 84 2 (.slice (some ⟨w.heap.size+3,0,none⟩) live.length live.length) live.length (pcells live)) :=
  ownsRow_setCell_other (ownsRow_setCell_other (ownsRow_setCell_other (ownsRow_setCell_other (O13.out.mono (by omega)) (by simp[Value.ownBlock]) _) (by simp[Value.ownBlock]) _) (by simp[Value.ownBlock]) _) (by simp[Value.ownBlock]) _
 have HR2:Hid (((((w3.setCell ⟨w.heap.size+1+1,2,none⟩ (.slice (some ⟨w2.heap.size,0,none⟩) ops.length ops.length)).setCell ⟨w.heap.size+1,0,none⟩ (.slice (some ⟨w.heap.size+3,0,none⟩) live.length live.length)).setCell ⟨w.heap.size+1,1,none⟩ (.slice (some ⟨w1.heap.size,0,none⟩) safe.length safe.length)).setCell ⟨w.heap.size+1,2,none⟩ (.slice (some ⟨w2.heap.size,0,none⟩) ops.length ops.length)).ownsRow w.heap.size 84 2 (.slice (some ⟨w1.heap.size,0,none⟩) safe.length safe.length) safe.length (pcells safe)) :=
  ownsRow_setCell_other (ownsRow_setCell_other (ownsRow_setCell_other (ownsRow_setCell_other (O23.out.mono (by omega)) (by simp[Value.ownBlock];omega) _) (by simp[Value.ownBlock];omega) _) (by simp[Value.ownBlock];omega) _) (by simp[Value.ownBlock];omega) _
 have HR3:Hid (((((w3.setCell ⟨w.heap.size+1+1,2,none⟩ (.slice (some ⟨w2.heap.size,0,none⟩) ops.length ops.length)).setCell ⟨w.heap.size+1,0,none⟩ (.slice (some ⟨w.heap.size+3,0,none⟩) live.length live.length)).setCell ⟨w.heap.size+1,1,none⟩ (.slice (some ⟨w1.heap.size,0,none⟩) safe.length safe.length)).setCell ⟨w.heap.size+1,2,none⟩ (.slice (some ⟨w2.heap.size,0,none⟩) ops.length ops.length)).ownsRow w.heap.size 40 4 (.slice (some ⟨w2.heap.size,0,none⟩) ops.length ops.length) ops.length (dcells ops)) :=
  ownsRow_setCell_other (ownsRow_setCell_other (ownsRow_setCell_other (ownsRow_setCell_other (O3.out.mono (by omega)) (by simp[Value.ownBlock];omega) _) (by simp[Value.ownBlock];omega) _) (by simp[Value.ownBlock];omega) _) (by simp[Value.ownBlock];omega) _
 have HBB:Hid (Below w.heap.size w ((((w3.setCell ⟨w.heap.size+1+1,2,none⟩ (.slice (some ⟨w2.heap.size,0,none⟩) ops.length ops.length)).setCell ⟨w.heap.size+1,0,none⟩ (.slice (some ⟨w.heap.size+3,0,none⟩) live.length live.length)).setCell ⟨w.heap.size+1,1,none⟩ (.slice (some ⟨w1.heap.size,0,none⟩) safe.length safe.length)).setCell ⟨w.heap.size+1,2,none⟩ (.slice (some ⟨w2.heap.size,0,none⟩) ops.length ops.length))) :=
  (((B3.setCell (by simp;omega) _).setCell (by simp) _).setCell (by simp) _).setCell (by simp) _
 clear f1 f2 k1 y1 y2 y3 rf qf
 go_wp2
 exact bodyPost_ret (v:=.agg #[(.slice (some ⟨w.heap.size+3,0,none⟩) live.length live.length),(.slice (some ⟨w1.heap.size,0,none⟩) safe.length safe.length),(.slice (some ⟨w2.heap.size,0,none⟩) ops.length ops.length)]) (results_cell_row rfl _ _ (w.heap.size+1) 31 _ (0,0) _ rfl HY.out Try.underlying31 rfl (by kernel_rfl)) rfl ⟨_,_,_,rfl,s1,s2,HR1.out,HR2.out,HR3.out,HBB.out⟩
set_option maxRecDepth 100000 in
set_option maxHeartbeats 1000000 in
theorem eqDisk_same (live safe:List PairL) (ops:List DOpL) (a1 a2 a3 b1 b2 b3:Option Addr) (c1 c2 c3 d1 d2 d3:Nat) (w:World) (hl1:live.length≤16777216) (hl2:safe.length≤16777216) (hl3:ops.length≤16777216) (h1:IsPairs w a1 live∧IsPairs w b1 live) (h2:IsPairs w a2 safe∧IsPairs w b2 safe) (h3:IsDOps w a3 ops∧IsDOps w b3 ops) :
 Calls Try.prog 16 #[.agg #[.slice a1 live.length c1,.slice a2 safe.length c2,.slice a3 ops.length c3],.agg #[.slice b1 live.length d1,.slice b2 safe.length d2,.slice b3 ops.length d3]] w fun e w'=>e=.returned (.bool true)∧Below w.heap.size w w':=by
 have B0:Below w.heap.size w ((w.alloc (.cells #[.slice a1 live.length c1,.slice a2 safe.length c2,.slice a3 ops.length c3] 31)).alloc (.cells #[.slice b1 live.length d1,.slice b2 safe.length d2,.slice b3 ops.length d3] 31)):=((Below.refl _ _).alloc (Nat.le_refl _) _).alloc (by simp) _
 have K:=eqFileS_same live a1 b1 c1 d1 ((w.alloc (.cells #[.slice a1 live.length c1,.slice a2 safe.length c2,.slice a3 ops.length c3] 31)).alloc (.cells #[.slice b1 live.length d1,.slice b2 safe.length d2,.slice b3 ops.length d3] 31)) hl1 (h1.1.later B0) (h1.2.later B0)
 have HU2:Hid (∀ W,Below w.heap.size w W→IsPairs W a2 safe∧IsPairs W b2 safe):=fun W hW=>⟨h2.1.later hW,h2.2.later hW⟩
 have HU3:Hid (∀ W,Below w.heap.size w W→IsDOps W a3 ops∧IsDOps W b3 ops):=fun W hW=>⟨h3.1.later hW,h3.2.later hW⟩
 have H1:Hid (((w.alloc (.cells #[.slice a1 live.length c1,.slice a2 safe.length c2,.slice a3 ops.length c3] 31)).alloc (.cells #[.slice b1 live.length d1,.slice b2 safe.length d2,.slice b3 ops.length d3] 31)).heap[w.heap.size]? = some (.cells #[.slice a1 live.length c1,.slice a2 safe.length c2,.slice a3 ops.length c3] 31 (0,0))):=by
  rw[Hid,Below.heap_alloc _ _ _ (by simp)];exact heap_alloc_new _ _
 have H2:Hid (((w.alloc (.cells #[.slice a1 live.length c1,.slice a2 safe.length c2,.slice a3 ops.length c3] 31)).alloc (.cells #[.slice b1 live.length d1,.slice b2 safe.length d2,.slice b3 ops.length d3] 31)).heap[w.heap.size+1]? = some (.cells #[.slice b1 live.length d1,.slice b2 safe.length d2,.slice b3 ops.length d3] 31 (0,0))):=by
  have:=heap_alloc_new (w.alloc (.cells #[.slice a1 live.length c1,.slice a2 safe.length c2,.slice a3 ops.length c3] 31)) (.cells #[.slice b1 live.length d1,.slice b2 safe.length d2,.slice b3 ops.length d3] 31)
  rw[Hid];simpa using this
 obtain⟨p0,p1,p2,_⟩:=three_cells H1.out
 obtain⟨q0,q1,q2,_⟩:=three_cells H2.out
 clear h1 h2 h3
 go_enter Try.func16,Try.ntmps16
 go_wp2_with fail
 refine K.mono ?_
 rintro e w1 ⟨rfl,b1'⟩
 have B1:=B0.trans (b1'.mono B0.size)
 have HA1:Hid (w1.heap[w.heap.size]? = some (.cells #[.slice a1 live.length c1,.slice a2 safe.length c2,.slice a3 ops.length c3] 31 (0,0))):=(b1'.block w.heap.size (by simp;omega)).trans H1.out
 have HA2:Hid (w1.heap[w.heap.size+1]? = some (.cells #[.slice b1 live.length d1,.slice b2 safe.length d2,.slice b3 ops.length d3] 31 (0,0))):=(b1'.block (w.heap.size+1) (by simp)).trans H2.out
 clear p0 p1 p2 q0 q1 q2
 obtain⟨p0,p1,p2,_⟩:=three_cells HA1.out
 obtain⟨q0,q1,q2,_⟩:=three_cells HA2.out
 have K2:=eqFileS_same safe a2 b2 c2 d2 w1 hl2 (HU2.out w1 B1).1 (HU2.out w1 B1).2
 clear K b1' H1 H2 B0 HU2
 go_wp2_with fail
 refine K2.mono ?_
 rintro e w2 ⟨rfl,b2'⟩
 have B2:=B1.trans (b2'.mono B1.size)
 have HB1:Hid (w2.heap[w.heap.size]? = some (.cells #[.slice a1 live.length c1,.slice a2 safe.length c2,.slice a3 ops.length c3] 31 (0,0))):=(b2'.block w.heap.size (lt_of_block HA1.out)).trans HA1.out
 have HB2:Hid (w2.heap[w.heap.size+1]? = some (.cells #[.slice b1 live.length d1,.slice b2 safe.length d2,.slice b3 ops.length d3] 31 (0,0))):=(b2'.block (w.heap.size+1) (lt_of_block HA2.out)).trans HA2.out
 clear p0 p1 p2 q0 q1 q2
 obtain⟨p0,p1,p2,_⟩:=three_cells HB1.out
 obtain⟨q0,q1,q2,_⟩:=three_cells HB2.out
 have K3:=eqDOpS_same ops a3 b3 c3 d3 w2 hl3 (HU3.out w2 B2).1 (HU3.out w2 B2).2
 clear K2 b2' HA1 HA2 B1 HU3
 go_wp2_with fail
 refine K3.mono ?_
 rintro e w3 ⟨rfl,b3'⟩
 have B3:=B2.trans (b3'.mono B2.size)
 clear p0 p1 p2 q0 q1 q2
 go_wp2
 go_ret
 exact⟨rfl,B3⟩
end Go.Proofs.Ytlllkdioojjaeaa
