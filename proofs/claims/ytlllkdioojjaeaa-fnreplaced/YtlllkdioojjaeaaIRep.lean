/-
 Contract: Replace of the program.
-/
import Derived.Test.YtlllkdioojjaeaaIDos
import Derived.Test.YtlllkdioojjaeaaSRch
import Derived.Test.YtlllkdioojjaeaaMathCs
import Derived.Deep.Cut
namespace Go.Proofs.Ytlllkdioojjaeaa
open Go.RowKit
set_option linter.unusedVariables false
def SizeD (r:DskL):Prop:=r.1.length≤1048576∧(∀ p∈r.1,p.1.length≤1048576∧p.2.length≤1048576)∧r.2.1.length≤1048576∧(∀ p∈r.2.1,p.1.length≤1048576∧p.2.length≤1048576)∧r.2.2.1.length≤1048576∧(∀ p∈r.2.2.1,p.n.length≤1048576∧p.t.length≤1048576∧p.d.length≤1048576)
theorem form_small {o:DOpL} (h:formOk o=true) (hd:o.d.length≤1048576):o.n.length≤1048576∧o.t.length≤1048576∧o.d.length≤1048576:=by
 simp only[formOk,nameOk,Bool.and_eq_true,decide_eq_true_eq] at h
 obtain⟨_,⟨_,h2⟩,h3⟩:=h
 refine⟨by omega,?_,hd⟩
 split at h3
 · simp only[Bool.and_eq_true,decide_eq_true_eq] at h3
   omega
 · simp only[Bool.and_eq_true,List.isEmpty_iff] at h3
   rw[h3.1];simp
theorem size_step {r:DskL} {o:DOpL} (h:SizeD r) (hk:diskOk r.1 r.2.1 r.2.2.1=true) (hd:o.d.length≤1048576) (h0:(actL r.1 r.2.1 r.2.2.1 o).2.2.2=0):SizeD (actL r.1 r.2.1 r.2.2.1 o):=by
 obtain⟨h1,h2,h3,h4,h5,h6⟩:=h
 have hok:=act_ok hk h0
 have hk':=hk
 simp only[diskOk,Bool.and_eq_true,decide_eq_true_eq] at hok hk'
 have f1:=files_small hok.1
 have l1:=(rise_files hok.1).2.2.1
 have l3:=hok.2.2.1
 refine⟨by omega,fun p hp=>by have:=f1 p hp;exact⟨by omega,by omega⟩,?_,?_,by omega,?_⟩
 · revert h0;unfold actL;repeat' split
   all_goals (intro _;exact h3)
 · revert h0;unfold actL;repeat' split
   all_goals (intro _;exact h4)
 · revert h0;unfold actL
   split
   · simp
   · split
     · simp
     · split
       · simp
       · rename_i hf _ _
         intro _ p hp
         simp only[List.mem_append,List.mem_singleton] at hp
         rcases hp with hp | rfl
         · exact h6 p hp
         · exact form_small (by cases h:formOk p with | true=>rfl | false=>exact absurd h hf) hd
theorem own_addr {w:World} {base e size n m c:Nat} {a:Option Addr} {xs:List Value} (h:w.ownsRow base e size (.slice a m c) n xs):AddrOk a∧(a=none→c=0):=by
 rcases h.2 with ⟨h',_⟩ | ⟨g,cap,cur,h',_⟩
 · cases h';exact⟨.inl rfl,fun _=>rfl⟩
 · cases h';exact⟨.inr ⟨_,_,rfl⟩,fun e=>by cases e⟩
def BehD (w wx:World) (ds:Array Value) (b:Nat) (j:Nat) (r:DskL):Prop :=
 ∃ (x1 x2 x3 : Option Addr) (k1 k2 k3 : Nat), wx.heap[b]? = some (.cells #[.slice x1 r.1.length k1, .slice x2 r.2.1.length k2, .slice x3 r.2.2.1.length k3] 31 (0, 0)) ∧ IsPairs wx x1 r.1 ∧ IsPairs wx x2 r.2.1 ∧ IsDOps wx x3 r.2.2.1 ∧ (AddrOk x1 ∧ (x1 = none → k1 = 0) ∧ AddrOk x2 ∧ (x2 = none → k2 = 0) ∧ AddrOk x3 ∧ (x3 = none → k3 = 0)) ∧ w.heap.size + 1 < b ∧ Below w.heap.size w wx ∧ wx.heap[w.heap.size]? = some (.cells ds 31 (0, 0)) ∧ wx.heap[w.heap.size + 1]? = some (.cells #[.slice none 0 0, .slice none 0 0, .slice none 0 0] 31 (0, 0)) ∧
   (0<j→∃ s,b<s∧wx.ownsRow s 84 2 (.slice x1 r.1.length k1) r.1.length (pcells r.1)∧wx.ownsRow s 84 2 (.slice x2 r.2.1.length k2) r.2.1.length (pcells r.2.1)∧wx.ownsRow s 40 4 (.slice x3 r.2.2.1.length k3) r.2.2.1.length (dcells r.2.2.1)∧Apart3 (.slice x1 r.1.length k1) (.slice x2 r.2.1.length k2) (.slice x3 r.2.2.1.length k3))
theorem beh_step {w W w9:World} {ds:Array Value} {b j l1 l2 l3 s:Nat} {r q:DskL} {x1 x2 x3:Option Addr} {k1 k2 k3:Nat} (e1:l1=q.1.length) (e2:l2=q.2.1.length) (e3:l3=q.2.2.1.length) (h:BehD w W ds b j r) (hs:b<s) (b9:Below W.heap.size W w9) (o1:w9.ownsRow s 84 2 (.slice x1 q.1.length k1) q.1.length (pcells q.1)) (o2:w9.ownsRow s 84 2 (.slice x2 q.2.1.length k2) q.2.1.length (pcells q.2.1)) (o3:w9.ownsRow s 40 4 (.slice x3 q.2.2.1.length k3) q.2.2.1.length (dcells q.2.2.1)) (ap:Apart3 (.slice x1 q.1.length k1) (.slice x2 q.2.1.length k2) (.slice x3 q.2.2.1.length k3)) :
 BehD w (((w9.setCell ⟨b,0,none⟩ (.slice x1 l1 k1)).setCell ⟨b,1,none⟩ (.slice x2 l2 k2)).setCell ⟨b,2,none⟩ (.slice x3 l3 k3)) ds b (j+1) q:=by
 obtain⟨y1,y2,y3,z1,z2,z3,h0,_,_,_,_,hlt,hb,g0,g1,_⟩:=h
 have s9:b<W.heap.size:=lt_of_block h0
 have h9:=(b9.block _ s9).trans h0
 subst e1 e2 e3
 have p1:=own_set (own_set (own_set o1 ⟨b,0,none⟩ hs (.slice x1 q.1.length k1)) ⟨b,1,none⟩ hs (.slice x2 q.2.1.length k2)) ⟨b,2,none⟩ hs (.slice x3 q.2.2.1.length k3)
 have p2:=own_set (own_set (own_set o2 ⟨b,0,none⟩ hs (.slice x1 q.1.length k1)) ⟨b,1,none⟩ hs (.slice x2 q.2.1.length k2)) ⟨b,2,none⟩ hs (.slice x3 q.2.2.1.length k3)
 have p3:=own_set (own_set (own_set o3 ⟨b,0,none⟩ hs (.slice x1 q.1.length k1)) ⟨b,1,none⟩ hs (.slice x2 q.2.1.length k2)) ⟨b,2,none⟩ hs (.slice x3 q.2.2.1.length k3)
 have d1:=own_addr o1
 have d2:=own_addr o2
 have d3:=own_addr o3
 refine⟨x1,x2,x3,k1,k2,k3,dk_set (j:=2) (dk_set (j:=1) (dk_set (j:=0) h9)),(isPairs_own p1).2.2,(isPairs_own p2).2.2,(isDOps_own p3).2.2,⟨d1.1,d1.2,d2.1,d2.2,d3.1,d3.2⟩,hlt,(((hb.trans (b9.mono hb.size)).setCell (by simp only;omega) _).setCell (by simp only;omega) _).setCell (by simp only;omega) _,?_,?_,fun _=>⟨s,hs,p1,p2,p3,ap⟩⟩
 · rw[set3 (by omega)];exact (b9.block _ (lt_of_block g0)).trans g0
 · rw[set3 (by omega)];exact (b9.block _ (lt_of_block g1)).trans g1
theorem lit_dop1 (w:World) (k:Int) (n t d:List UInt8):IsDOps (w.alloc (.cells #[.int .i64 k,.string ⟨n.toArray⟩,.string ⟨t.toArray⟩,.string ⟨d.toArray⟩] 40)) (some ⟨w.heap.size,0,none⟩) [⟨k,n,t,d⟩]:=by
 refine .inr ⟨_,_,rfl,fun j hj=>?_⟩
 have hh:=heap_alloc_new w (.cells #[.int .i64 k,.string ⟨n.toArray⟩,.string ⟨t.toArray⟩,.string ⟨d.toArray⟩] 40)
 have h1:j=0:=by simp at hj;omega
 subst h1
 obtain⟨c0,c1,c2,c3,_⟩:=four_cells hh
 exact⟨c0,c1,c2,c3⟩
theorem lit_dop2 (w:World) (k k':Int) (n t d n' t' d':List UInt8):IsDOps (w.alloc (.cells #[.int .i64 k,.string ⟨n.toArray⟩,.string ⟨t.toArray⟩,.string ⟨d.toArray⟩,.int .i64 k',.string ⟨n'.toArray⟩,.string ⟨t'.toArray⟩,.string ⟨d'.toArray⟩] 40)) (some ⟨w.heap.size,0,none⟩) [⟨k,n,t,d⟩,⟨k',n',t',d'⟩]:=by
 refine .inr ⟨_,_,rfl,fun j hj=>?_⟩
 have hh:=heap_alloc_new w (.cells #[.int .i64 k,.string ⟨n.toArray⟩,.string ⟨t.toArray⟩,.string ⟨d.toArray⟩,.int .i64 k',.string ⟨n'.toArray⟩,.string ⟨t'.toArray⟩,.string ⟨d'.toArray⟩] 40)
 have h1:j=0∨j=1:=by simp at hj;omega
 rcases h1 with rfl | rfl
 all_goals (refine⟨?_,?_,?_,?_⟩ <;> (unfold World.cell?;simp only;rw[hh];rfl))
theorem below_of_grown0 {w w':World} (h:w.grownBy w' none):Below w.heap.size w w':=⟨h.os,h.tape,h.output,h.size,fun k hk=>h.block k hk (by simp)⟩
theorem cell_lt {w:World} {b off:Nat} {v:Value} (h:w.cell? ⟨b,off,none⟩=some v):b<w.heap.size:=by
 unfold World.cell? at h
 simp only at h
 cases hh:w.heap[b]? with
 | none=>rw[hh] at h;cases h
 | some o=>exact (Array.getElem?_eq_some_iff.1 hh).1
theorem jpost_of {w W:World} {s l1 l2 l3:Nat} {q rr:DskL} {cd:Int} {y1 y2 y3:Option Addr} {m1 m2 m3:Nat} (e1:l1=q.1.length) (e2:l2=q.2.1.length) (e3:l3=q.2.2.1.length) (he:rr=(q.1,q.2.1,q.2.2.1,cd)) (hs:w.heap.size+1<s) (hb:Below w.heap.size w W) (o1:W.ownsRow s 84 2 (.slice y1 l1 m1) l1 (pcells q.1)) (o2:W.ownsRow s 84 2 (.slice y2 l2 m2) l2 (pcells q.2.1)) (o3:W.ownsRow s 40 4 (.slice y3 l3 m3) l3 (dcells q.2.2.1)) (ap:Apart3 (.slice y1 l1 m1) (.slice y2 l2 m2) (.slice y3 l3 m3)) :
 JPost w (((W.setCell ⟨w.heap.size+1,0,none⟩ (.slice y1 l1 m1)).setCell ⟨w.heap.size+1,1,none⟩ (.slice y2 l2 m2)).setCell ⟨w.heap.size+1,2,none⟩ (.slice y3 l3 m3)) (.returned (.tuple #[.agg #[.slice y1 l1 m1,.slice y2 l2 m2,.slice y3 l3 m3],.int .i64 cd])) rr:=by
 subst e1 e2 e3
 rw[he]
 exact⟨y1,y2,y3,m1,m2,m3,rfl,(own_set (own_set (own_set o1 _ hs _) _ hs _) _ hs _).mono (by omega),(own_set (own_set (own_set o2 _ hs _) _ hs _) _ hs _).mono (by omega),(own_set (own_set (own_set o3 _ hs _) _ hs _) _ hs _).mono (by omega),ap,((hb.setCell (by simp only;omega) _).setCell (by simp only;omega) _).setCell (by simp only;omega) _⟩
theorem jpost_none {w W:World} {rr:DskL} (he:rr=([],[],[],1)) (hb:Below w.heap.size w W):JPost w (((W.setCell ⟨w.heap.size+1,0,none⟩ (.slice none 0 0)).setCell ⟨w.heap.size+1,1,none⟩ (.slice none 0 0)).setCell ⟨w.heap.size+1,2,none⟩ (.slice none 0 0)) (.returned (.tuple #[.agg #[.slice none 0 0,.slice none 0 0,.slice none 0 0],.int .i64 1])) rr:=by
 rw[he]
 exact⟨none,none,none,0,0,0,rfl,World.ownsRow_nil _ _ _ _,World.ownsRow_nil _ _ _ _,World.ownsRow_nil _ _ _ _,fun q=>⟨fun h=>by simp[Value.ownBlock] at h,fun h=>by simp[Value.ownBlock] at h⟩,((hb.setCell (by simp only;omega) _).setCell (by simp only;omega) _).setCell (by simp only;omega) _⟩
set_option maxRecDepth 100000 in
set_option maxHeartbeats 8000000 in
theorem impl_replace (a1 a2 a3 : Option Addr) (c1 c2 c3 : Nat) (live safe : List PairL) (ops : List DOpL) (nm da : List UInt8) (w : World) (ha1 : AddrOk a1) (hc1 : a1 = none → c1 = 0) (ha2 : AddrOk a2) (hc2 : a2 = none → c2 = 0) (ha3 : AddrOk a3) (hc3 : a3 = none → c3 = 0) (hsz : SizeD (live, safe, ops, 0)) (hn : nm.length ≤ 1048576) (hd : da.length ≤ 1048576)
 (hs1:IsPairs w a1 live) (hs2:IsPairs w a2 safe) (hs3:IsDOps w a3 ops) :
 Calls Try.prog 33 #[.agg #[.slice a1 live.length c1,.slice a2 safe.length c2,.slice a3 ops.length c3],.string ⟨nm.toArray⟩,.string ⟨da.toArray⟩] w fun e w'=>JPost w w' e (repL live safe ops nm da):=by
 obtain⟨j0,hj0,jz0,jz1,jz2⟩:=info_parts infoDOp
 obtain⟨wa,hwa⟩:∃ wa,wa=((w.alloc (.cells #[.slice a1 live.length c1,.slice a2 safe.length c2,.slice a3 ops.length c3] 31)).alloc (.cells #[.slice none 0 0,.slice none 0 0,.slice none 0 0] 31)):=⟨_,rfl⟩
 have B0:Below w.heap.size w wa:=by rw[hwa];exact ((Below.refl _ _).alloc (Nat.le_refl _) _).alloc (by simp) _
 have H0:Hid (wa.heap[w.heap.size]? = some (.cells #[.slice a1 live.length c1,.slice a2 safe.length c2,.slice a3 ops.length c3] 31 (0,0))):=by rw[hwa,Hid,Below.heap_alloc _ _ _ (by simp)];exact heap_alloc_new w _
 have R0:Hid (wa.heap[w.heap.size+1]? = some (.cells #[.slice none 0 0,.slice none 0 0,.slice none 0 0] 31 (0,0))):=by
  rw[hwa,Hid]
  have:=heap_alloc_new (w.alloc (.cells #[.slice a1 live.length c1,.slice a2 safe.length c2,.slice a3 ops.length c3] 31)) (.cells #[.slice none 0 0,.slice none 0 0,.slice none 0 0] 31)
  simpa using this
 obtain⟨p0,p1,p2,_⟩:=three_cells H0.out
 obtain⟨fr,hfr⟩:∃ fr,fr=nm ++ dotNew:=⟨_,rfl⟩
 have hfl:fr.length≤2097152:=by rw[hfr];simp[dotNew];omega
 have hcat:(⟨nm.toArray⟩:ByteArray) ++ ⟨#[46,110,101,119]⟩=⟨fr.toArray⟩:=by rw[hfr];exact cat_bytes nm dotNew
 have hcl:¬ 9223372036854775807<nm.length+4:=by omega
 have KD:=impl_dataOf a1 ha1 c1 live fr wa hsz.1 (hs1.later B0)
 have HKD:Hid (∀ (r:DskL) (k:Int) (n t d:List UInt8) (x1 x2 x3:Option Addr) (k1 k2 k3:Nat) W,SizeD r→n.length≤2097152→t.length≤2097152→d.length≤1048576→(AddrOk x1∧(x1=none→k1=0)∧AddrOk x2∧(x2=none→k2=0)∧AddrOk x3∧(x3=none→k3=0))→IsPairs W x1 r.1→IsPairs W x2 r.2.1→IsDOps W x3 r.2.2.1→_):=fun r k n t d x1 x2 x3 k1 k2 k3 W hz h1 h2 h3 h4 h5 h6 h7=>impl_doX x1 x2 x3 k1 k2 k3 r.1 r.2.1 r.2.2.1 k n t d W h4.1 h4.2.1 h4.2.2.1 h4.2.2.2.1 h4.2.2.2.2.1 h4.2.2.2.2.2 hz.1 hz.2.1 hz.2.2.1 hz.2.2.2.1 hz.2.2.2.2.1 hz.2.2.2.2.2 h1 h2 h3 h5 h6 h7
 unfold JPost at HKD
 have HKC:Hid (∀ W,Below w.heap.size w W→_):=fun W hW=>impl_copy a1 a2 a3 c1 c2 c3 live safe ops W ha1 hc1 ha2 hc2 ha3 hc3 hsz.1 hsz.2.2.1 hsz.2.2.2.2.1 (hs1.later hW) (hs2.later hW) (hs3.later hW)
 unfold IPost at HKC
 have HA:Hid ((AddrOk a1∧(a1=none→c1=0)∧AddrOk a2∧(a2=none→c2=0)∧AddrOk a3∧(a3=none→c3=0))∧nm.length≤1048576∧fr.length≤2097152∧da.length≤1048576∧SizeD (live,safe,ops,0)∧fr=nm ++ dotNew):=⟨⟨ha1,hc1,ha2,hc2,ha3,hc3⟩,hn,hfl,hd,hsz,hfr⟩
 have HS:Hid (∀ W,Below w.heap.size w W→IsPairs W a1 live∧IsPairs W a2 safe∧IsDOps W a3 ops):=fun W h=>⟨hs1.later h,hs2.later h,hs3.later h⟩
 obtain⟨rr,hrr⟩:∃ x,x=repL live safe ops nm da:=⟨_,rfl⟩
 have HRR:Hid (rr=repL live safe ops nm da):=hrr
 rw[←hrr]
 clear hs1 hs2 hs3 ha1 ha2 ha3 hc1 hc2 hc3 hsz hn hd hfl hfr hrr
 rw[hwa] at KD p0 p1 p2
 go_enter Try.func33,Try.ntmps33
 go_wp2_with fail
 refine KD.mono ?_
 rintro e w1 ⟨rb,bb,rfl,hdat,b1⟩
 rw[←hwa] at b1
 have HDA:Hid (Rise live→bb=decide (0≤atF live fr)):=fun h=>(hdat h).1
 have B1:Below w.heap.size w w1:=B0.trans (b1.mono B0.size)
 have H1:Hid (w1.heap[w.heap.size]? = some (.cells #[.slice a1 live.length c1,.slice a2 safe.length c2,.slice a3 ops.length c3] 31 (0,0))):=(b1.block _ (lt_of_block H0.out)).trans H0.out
 have R1:Hid (w1.heap[w.heap.size+1]? = some (.cells #[.slice none 0 0,.slice none 0 0,.slice none 0 0] 31 (0,0))):=(b1.block _ (lt_of_block R0.out)).trans R0.out
 clear p0 p1 p2 KD b1 H0 R0 B0 hwa hdat hcat hcl
 obtain⟨o1,ho1⟩:∃ x:List DOpL,x=if bb=true then [⟨3,fr,[],[]⟩] else []:=⟨_,rfl⟩
 have HO1:Hid (o1=if bb=true then [⟨3,fr,[],[]⟩] else []):=ho1
 clear ho1
 go_upto_if 26 with fail
 go_cut [9] from 26 (fun v9 wx=>∃ (z1:Option Addr) (zn zc:Nat),v9=.slice z1 zn zc∧zn≤1∧Hid (wx.ownsRow w1.heap.size 40 4 (.slice z1 zn zc) zn (dcells o1)∧Below w1.heap.size w1 wx))
 case first =>
  cases bb with
  | false =>
    go_wp2
    go_meet
    exact⟨none,0,0,rfl,by omega,by rw[HO1.out];exact World.ownsRow_nil _ _ _ _,Below.refl _ _⟩
  | true =>
    have L1:=lit_dop1 w1 3 fr [] []
    have O1:w1.ownsRow w1.heap.size 40 4 (.slice none 0 0) 0 []:=World.ownsRow_nil _ _ _ _
    have HL1:Hid (IsDOps _ _ _):=L1
    clear L1
    go_wp2_with (first
     | (at_builtin; refine wpList_append_dops rfl _ _ 29 rfl w1.heap.size 40 j0 (.agg #[.int .i64 0, .string ⟨#[]⟩, .string ⟨#[]⟩, .string ⟨#[]⟩]) 56 Try.underlying29 hj0 jz0 jz1 jz2 rfl (.slice none 0 0) 0 [] rfl (World.ownsRow_nil _ _ _ _) (some ⟨w1.heap.size, 0, none⟩) [⟨3, fr, [], []⟩] 1 1 rfl rfl (by simp) HL1.out (by unfold maxLen; omega) (by omega) (by simp) ?_; intro v3 w3 o3 g3; obtain ⟨z1, zn, zc, rfl⟩ := own_slice4 o3
        have O3:Hid (w3.ownsRow w1.heap.size 40 4 (.slice z1 zn zc) 1 (dcells [⟨3,fr,[],[]⟩])):=(by rw[Hid];simpa using o3)
        have B3:Hid (Below w1.heap.size w1 w3):=((Below.refl _ _).alloc (Nat.le_refl _) _).trans ((below_of_grown0 g3).mono (by simp))
        clear o3 g3))
    obtain⟨hm3,_,_⟩:=isDOps_own O3.out
    go_meet
    obtain rfl:zn=1:=by simpa using hm3
    exact⟨z1,1,zc,rfl,by omega,by have h:=HO1.out;simp only[if_true] at h;rw[h];exact O3.out,B3.out⟩
 case rest =>
  obtain⟨z1,zn,zc,rfl,hzn,HZ⟩:=hcut
  obtain⟨w2,rfl⟩:∃ W,W=wc:=⟨_,rfl⟩
  obtain⟨OZ,BZ⟩:=HZ.out
  have HOZ:Hid (w2.ownsRow w1.heap.size 40 4 (.slice z1 zn zc) zn (dcells o1)):=OZ
  have L2:=lit_dop2 w2 1 2 fr [] da fr nm []
  have HL2:Hid (IsDOps _ _ _):=L2
  have B2:Below w.heap.size w w2:=B1.trans (BZ.mono B1.size)
  have HS1:Hid (w.heap.size+1<w1.heap.size):=lt_of_block R1.out
  have H2:Hid (w2.heap[w.heap.size]? = some (.cells #[.slice a1 live.length c1,.slice a2 safe.length c2,.slice a3 ops.length c3] 31 (0,0))):=(BZ.block _ (lt_of_block H1.out)).trans H1.out
  have R2:Hid (w2.heap[w.heap.size+1]? = some (.cells #[.slice none 0 0,.slice none 0 0,.slice none 0 0] 31 (0,0))):=(BZ.block _ (lt_of_block R1.out)).trans R1.out
  have HBZ:Hid (Below w1.heap.size w1 w2):=BZ
  clear OZ BZ HZ L2
  have HO0:Hid ((w2.alloc (.cells #[.int .i64 1,.string ⟨fr.toArray⟩,.string ⟨([]:List UInt8).toArray⟩,.string ⟨da.toArray⟩,.int .i64 2,.string ⟨fr.toArray⟩,.string ⟨nm.toArray⟩,.string ⟨([]:List UInt8).toArray⟩] 40)).ownsRow w1.heap.size 40 4 (.slice z1 zn zc) zn (dcells o1)):=HOZ.out.alloc _
  have HSZ:Hid (w1.heap.size≤w2.heap.size):=HBZ.out.size
  go_wp2_with (first
   | (at_builtin; refine wpList_append_dops rfl _ _ 29 rfl w1.heap.size 40 j0 (.agg #[.int .i64 0, .string ⟨#[]⟩, .string ⟨#[]⟩, .string ⟨#[]⟩]) 56 Try.underlying29 hj0 jz0 jz1 jz2 rfl (.slice z1 zn zc) zn _ rfl HO0.out (some ⟨w2.heap.size, 0, none⟩) [⟨1, fr, [], da⟩, ⟨2, fr, nm, []⟩] 2 2 rfl rfl (by simp) HL2.out (by unfold maxLen; omega) (by omega) (by have := HSZ.out; simp; omega) ?_; intro v3 w3 o3 g3; obtain ⟨y1, yn, yc, rfl⟩ := own_slice4 o3
      obtain⟨w4,rfl⟩:∃ W,W=w3:=⟨_,rfl⟩
      have O4:Hid (w4.ownsRow w1.heap.size 40 4 (.slice y1 yn yc) (zn+2) (dcells o1 ++ dcells [⟨1,fr,[],da⟩,⟨2,fr,nm,[]⟩])):=o3
      have B4:Hid (Below w1.heap.size w1 w4):=(HBZ.out.alloc HSZ.out _).grown g3 (by have:=HSZ.out;simp;omega) (fun q hq=>(HO0.out.lt q hq).1)
      have H4:Hid (w4.heap[w.heap.size]? = some (.cells #[.slice a1 live.length c1,.slice a2 safe.length c2,.slice a3 ops.length c3] 31 (0,0))):=(B4.out.block _ (lt_of_block H1.out)).trans H1.out
      have R4:Hid (w4.heap[w.heap.size+1]? = some (.cells #[.slice none 0 0,.slice none 0 0,.slice none 0 0] 31 (0,0))):=(B4.out.block _ (lt_of_block R1.out)).trans R1.out
      obtain⟨p0,p1,p2,_⟩:=three_cells H4.out
      obtain⟨os,hos⟩:∃ x:List DOpL,x=o1 ++ [⟨1,fr,[],da⟩,⟨2,fr,nm,[]⟩]:=⟨_,rfl⟩
      rw[←dcells_app,←hos] at O4
      obtain⟨e1,e2,IO4⟩:=isDOps_own O4.out
      obtain⟨ln,hln⟩:∃ x,x=os.length:=⟨_,rfl⟩
      have HI4:Hid (IsDOps w4 y1 os):=IO4
      have HOS:Hid (os=o1 ++ [⟨1,fr,[],da⟩,⟨2,fr,nm,[]⟩]∧ln=os.length):=⟨hos,hln⟩
      rw[e1,←hln]
      have hl3:ln≤3∧2≤ln:=by rw[hln,←e2];omega
      clear o3 g3 e1 e2 IO4 hln hos))
  obtain⟨g4,go4,rfl,HC4⟩:∃ b off,y1=some ⟨b,off,none⟩∧Hid (∀ j (h:j<os.length),w4.cell? ⟨b,off+j*4,none⟩=some (.int .i64 os[j].k)∧w4.cell? ⟨b,off+j*4+1,none⟩=some (.string ⟨os[j].n.toArray⟩)∧w4.cell? ⟨b,off+j*4+2,none⟩=some (.string ⟨os[j].t.toArray⟩)∧w4.cell? ⟨b,off+j*4+3,none⟩=some (.string ⟨os[j].d.toArray⟩)):=by
   rcases HI4.out with h | ⟨b,off,h1,h2⟩
   · have:=HOS.out.2;rw[h] at this;simp at this;omega
   · exact⟨b,off,h1,h2⟩
  clear O4 HI4 HO0 HL2 HOZ H1 R1 H2 R2 HBZ HSZ p0 p1 p2
  obtain⟨hA1,hN1,hN2,hN3,hSZ0,hFR⟩:=HA.out
  have HFR:Hid (fr=nm ++ dotNew):=hFR
  obtain⟨dk,hdk⟩:∃ x,x=diskOk live safe ops:=⟨_,rfl⟩
  have HDK:Hid (dk=diskOk live safe ops):=hdk
  have HOB:Hid (∀ o∈os,o.n.length≤2097152∧o.t.length≤2097152∧o.d.length≤1048576):=by
   intro o ho
   rw[HOS.out.1,HO1.out] at ho
   simp only[List.mem_append,List.mem_cons,List.not_mem_nil,or_false] at ho
   rcases ho with ho | rfl | rfl
   · split at ho
     · simp only[List.mem_singleton] at ho;rw[ho];exact⟨hN2,by simp,by simp⟩
     · simp at ho
   · exact⟨hN2,by simp,hN3⟩
   · exact⟨hN2,by simp only;omega,by simp⟩
  have HRF:Hid (dk=false→repL live safe ops nm da=([],[],[],1)):=fun h=>by rw[repL,←hdk,h];rfl
  have HRT:Hid (dk=true→repL live safe ops nm da=repEnd live safe ops (os.foldl stepD (live,safe,ops,0))):=fun h=>by
   have hri:Rise live:=by
    rw[hdk] at h
    simp only[diskOk,Bool.and_eq_true] at h
    exact (rise_files h.1).1
   rw[repL,←hdk,h,if_pos rfl,HOS.out.1,HO1.out,HDA.out hri,hFR]
   rfl
  rw[←HRR.out] at HRF HRT
  clear hdk hFR HDA HO1 HRR
  obtain⟨b12,hb12⟩:∃ b,b=w4.heap.size:=⟨_,rfl⟩
  rw[←hb12]
  obtain⟨w5,hw5⟩:∃ W,W=w4.alloc (.cells #[.slice a1 live.length c1,.slice a2 safe.length c2,.slice a3 ops.length c3] 31):=⟨_,rfl⟩
  rw[←hw5]
  have X5:Below w4.heap.size w4 w5:=by rw[hw5];exact (Below.refl _ _).alloc (Nat.le_refl _) _
  have B5:Below w.heap.size w w5:=(B1.trans (B4.out.mono B1.size)).trans (X5.mono (B1.trans (B4.out.mono B1.size)).size)
  have HN5:Hid (BehD w w5 #[.slice a1 live.length c1,.slice a2 safe.length c2,.slice a3 ops.length c3] b12 0 (live,safe,ops,0)):=by
   have h5:w5.heap[b12]? = some (.cells #[.slice a1 live.length c1,.slice a2 safe.length c2,.slice a3 ops.length c3] 31 (0,0)):=by rw[hw5,hb12];exact heap_alloc_new w4 _
   exact⟨a1,a2,a3,c1,c2,c3,h5,(HS.out _ B5).1,(HS.out _ B5).2.1,(HS.out _ B5).2.2,hA1,by rw[hb12];exact lt_of_block R4.out,B5,(X5.block _ (lt_of_block H4.out)).trans H4.out,(X5.block _ (lt_of_block R4.out)).trans R4.out,fun h=>by omega⟩
  have HX5:Hid (Below w4.heap.size w4 w5):=X5
  have HB4:Hid (b12=w4.heap.size):=hb12
  clear X5 B5 hw5 H4 R4 HA hA1 hN1 hN2 hN3 B2 HS1 hb12
  have q0:(0:Int)≤(ln:Int):=by omega
  go_loopw [14,15,16,44] (fun _ _ _ i wr=>∃ (j:Nat) (r:DskL),j≤ln∧i=.int .i64 (j:Int)∧Hid (r=(os.take j).foldl stepD (live,safe,ops,0)∧r.2.2.2=0∧(dk=true∨j=0)∧SizeD r∧BehD w wr #[.slice a1 live.length c1,.slice a2 safe.length c2,.slice a3 ops.length c3] b12 j r∧Below w4.heap.size w4 wr)) (fun _ _ _ i _=>ln - (intOf i).toNat)
  case atStart=>exact⟨0,(live,safe,ops,0),by omega,rfl,rfl,rfl,.inr rfl,hSZ0,HN5.out,HX5.out⟩
  case round =>
   obtain⟨j,r,hj,rfl,HR⟩:=hrel
   obtain⟨hr1,hr2,hr3,hr4,hr5,hr6⟩:=HR.out
   have HR1:Hid (r=(os.take j).foldl stepD (live,safe,ops,0)∧r.2.2.2=0∧(dk=true∨j=0)∧SizeD r):=⟨hr1,hr2,hr3,hr4⟩
   have HB:Hid (BehD w wr #[.slice a1 live.length c1,.slice a2 safe.length c2,.slice a3 ops.length c3] b12 j r):=hr5
   have HX:Hid (Below w4.heap.size w4 wr):=hr6
   clear HR hr1 hr2 hr3 hr4 hr5 hr6 HN5 HX5
   by_cases hlt:j<ln
   · have hlo : j < os.length := by have := HOS.out.2; omega
     obtain⟨o0,o1c,o2,o3⟩:=HC4.out j hlo
     have hgl:g4<w4.heap.size:=cell_lt o0
     have hob:=HOB.out os[j] (List.getElem_mem hlo)
     obtain⟨op,hop⟩:∃ op,op=os[j]:=⟨_,rfl⟩
     have HOP:Hid (∃ h:j<os.length,op=os[j]):=⟨hlo,hop⟩
     rw[←hop] at o0 o1c o2 o3 hob
     clear hop
     obtain⟨ok,on,ot,od⟩:=op
     simp only at o0 o1c o2 o3 hob
     have u0:=(HX.out.cell (p:=⟨g4,go4+j*4,none⟩) hgl).trans o0
     have u1:=(HX.out.cell (p:=⟨g4,go4+j*4+1,none⟩) hgl).trans o1c
     have u2:=(HX.out.cell (p:=⟨g4,go4+j*4+2,none⟩) hgl).trans o2
     have u3:=(HX.out.cell (p:=⟨g4,go4+j*4+3,none⟩) hgl).trans o3
     clear o0 o1c o2 o3
     obtain⟨x1,x2,x3,k1,k2,k3,h0,h1,h2,h3,h4,h5,h6,h7,h8,h9⟩:=HB.out
     have A6:Below wr.heap.size wr (wr.alloc (.cells #[.int .i64 ok,.string ⟨on.toArray⟩,.string ⟨ot.toArray⟩,.string ⟨od.toArray⟩] 40)):=(Below.refl _ _).alloc (Nat.le_refl _) _
     have KD:=HKD.out r ok on ot od x1 x2 x3 k1 k2 k3 (wr.alloc (.cells #[.int .i64 ok,.string ⟨on.toArray⟩,.string ⟨ot.toArray⟩,.string ⟨od.toArray⟩] 40)) HR1.out.2.2.2 hob.1 hob.2.1 hob.2.2 h4 (h1.later A6) (h2.later A6) (h3.later A6)
     have H06:Hid ((wr.alloc (.cells #[.int .i64 ok,.string ⟨on.toArray⟩,.string ⟨ot.toArray⟩,.string ⟨od.toArray⟩] 40)).heap[b12]? = _):=(A6.block _ (lt_of_block h0)).trans h0
     have HB12:Hid (b12<wr.heap.size):=lt_of_block h0
     obtain⟨p0,p1,p2,_⟩:=three_cells H06.out
     obtain⟨q,hq⟩:∃ q,q=doL r.1 r.2.1 r.2.2.1 ⟨ok,on,ot,od⟩:=⟨_,rfl⟩
     have HQ:Hid (q=doL r.1 r.2.1 r.2.2.1 ⟨ok,on,ot,od⟩):=hq
     rw[←hq] at KD
     have hjl:(j:Int)<(ln:Int):=by omega
     have HBW:Hid (Below w.heap.size w wr):=h6
     have HOD:Hid (od.length≤1048576):=hob.2.2
     clear h0 h1 h2 h3 h4 h5 h6 h7 h8 h9 hq hob A6 hlo hgl
     go_wp2_with fail
     refine KD.mono ?_
     rintro e w9 ⟨y1,y2,y3,m1,m2,m3,rfl,n1,n2,n3,ap,b9⟩
     clear KD p0 p1 p2 u0 u1 u2 u3
     obtain⟨l1,hl1⟩:∃ x,x=q.1.length:=⟨_,rfl⟩
     obtain⟨l2,hl2⟩:∃ x,x=q.2.1.length:=⟨_,rfl⟩
     obtain⟨l3',hl3'⟩:∃ x,x=q.2.2.1.length:=⟨_,rfl⟩
     obtain⟨cd,hl4⟩:∃ x,x=q.2.2.2:=⟨_,rfl⟩
     have HL:Hid (l1=q.1.length∧l2=q.2.1.length∧l3'=q.2.2.1.length∧cd=q.2.2.2):=⟨hl1,hl2,hl3',hl4⟩
     rw[←hl1,←hl2,←hl3',←hl4]
     have HO:Hid (w9.ownsRow (wr.heap.size+1) 84 2 (.slice y1 q.1.length m1) q.1.length (pcells q.1)∧w9.ownsRow (wr.heap.size+1) 84 2 (.slice y2 q.2.1.length m2) q.2.1.length (pcells q.2.1)∧w9.ownsRow (wr.heap.size+1) 40 4 (.slice y3 q.2.2.1.length m3) q.2.2.1.length (dcells q.2.2.1)∧Apart3 (.slice y1 q.1.length m1) (.slice y2 q.2.1.length m2) (.slice y3 q.2.2.1.length m3)):=⟨by simpa using n1,by simpa using n2,by simpa using n3,ap⟩
     obtain⟨w10,hw10⟩:∃ W,W=(w9.alloc (.cells #[.slice y1 l1 m1,.slice y2 l2 m2,.slice y3 l3' m3] 31)):=⟨_,rfl⟩
     have B90:Below wr.heap.size wr w9:=((Below.refl _ _).alloc (Nat.le_refl _) _).trans (b9.mono (by simp))
     have B10:Hid (Below wr.heap.size wr w10):=by rw[hw10];exact B90.alloc B90.size _
     have HN15:Hid (w10.heap[w9.heap.size]? = some (.cells #[.slice y1 l1 m1,.slice y2 l2 m2,.slice y3 l3' m3] 31 (0,0))):=by rw[hw10];exact heap_alloc_new w9 _
     have HO10:Hid (w10.ownsRow (wr.heap.size+1) 84 2 (.slice y1 q.1.length m1) q.1.length (pcells q.1)∧w10.ownsRow (wr.heap.size+1) 84 2 (.slice y2 q.2.1.length m2) q.2.1.length (pcells q.2.1)∧w10.ownsRow (wr.heap.size+1) 40 4 (.slice y3 q.2.2.1.length m3) q.2.2.1.length (dcells q.2.2.1)):=by rw[hw10];exact⟨HO.out.1.alloc _,HO.out.2.1.alloc _,HO.out.2.2.1.alloc _⟩
     have HAP:Hid (Apart3 (.slice y1 q.1.length m1) (.slice y2 q.2.1.length m2) (.slice y3 q.2.2.1.length m3)):=ap
     have BW10:Hid (Below w.heap.size w w10):=HBW.out.trans (B10.out.mono HBW.out.size)
     obtain⟨_,_,_,_,_,_,z0,_,_,_,_,z5,_,z7,z8,_⟩:=HB.out
     have HRB:Hid (w10.heap[w.heap.size+1]? = some (.cells #[.slice none 0 0,.slice none 0 0,.slice none 0 0] 31 (0,0))):=(B10.out.block _ (lt_of_block z8)).trans z8
     have HDB:Hid (w10.heap[w.heap.size]? = some (.cells #[.slice a1 live.length c1,.slice a2 safe.length c2,.slice a3 ops.length c3] 31 (0,0))):=(B10.out.block _ (lt_of_block z7)).trans z7
     have HBB:Hid (w10.heap[b12]? = some (.cells _ 31 (0,0))):=(B10.out.block _ (lt_of_block z0)).trans z0
     have HZ5:Hid (w.heap.size+1<b12):=z5
     have HBN:Hid (b12≠w9.heap.size):=by have:=lt_of_block z0;have:=B90.size;rw[Hid];omega
     have HQT:Hid (dk=true→q=stepD r ⟨ok,on,ot,od⟩∧diskOk r.1 r.2.1 r.2.2.1=true):=fun h=>by
      have hd0:diskOk live safe ops=true:=by rw[←HDK.out];exact h
      have hk:=fold_ok (os.take j) (live,safe,ops,0) hd0 (by rw[←HR1.out.1];exact HR1.out.2.1)
      rw[←HR1.out.1] at hk
      exact⟨by rw[HQ.out,doL,if_pos hk,stepD,if_pos HR1.out.2.1],hk⟩
     have HQF:Hid (dk=false→q=([],[],[],1)):=fun h=>by
      have hj0:j=0:=by rcases HR1.out.2.2.1 with h1 | h1;rw[h] at h1;cases h1;exact h1
      have hr0:r=(live,safe,ops,0):=by rw[HR1.out.1,hj0];rfl
      have hd0:¬ diskOk live safe ops=true:=by rw[←HDK.out,h];simp
      rw[HQ.out,doL,hr0,if_neg hd0]
     have hd:dk=true∨dk=false:=by cases dk <;> simp
     clear hl1 hl2 hl3' hl4 n1 n2 n3 ap b9 z0 z5 z7 z8 B90 HO HQ
     rw[hw10] at HN15 HRB HDB HBB BW10 B10 HO10
     by_cases c1':cd=1
     · have hcb:(cd == 1)=true:=by rw[c1'];rfl
       have HE:Hid (rr=([],[],[],1)):=by
        rcases hd with h | h
        · have h1:=(HQT.out h).1
          rw[stepD,if_pos HR1.out.2.1] at h1
          exact absurd (by rw[←h1,←HL.out.2.2.2];exact c1') (act_code r.1 r.2.1 r.2.2.1 ⟨ok,on,ot,od⟩)
        · exact HRF.out h
       obtain⟨r0,r1,r2,rf⟩:=three_cells HRB.out
       have rf0:=rf 0
       have rf1:=rf 1
       have rf2:=rf 2
       have HY:Hid (_=_):=dk_set (j:=2) (z:=.slice none 0 0) (dk_set (j:=1) (z:=.slice none 0 0) (dk_set (j:=0) (z:=.slice none 0 0) HRB.out))
       have HP:Hid (JPost w _ _ rr):=jpost_none HE.out BW10.out
       clear rf HRB HDB HBB BW10 B10 HN15 HO10 hw10
       go_wp2
       refine bodyPost_ret (v:=.tuple #[.agg #[.slice none 0 0,.slice none 0 0,.slice none 0 0],.int .i64 1]) (results_disk rfl _ _ (w.heap.size+1) 31 _ (0,0) _ _ rfl HY.out Try.underlying31 rfl (by kernel_rfl) rfl) rfl ?_
       exact HP.out
     · have hcb:(cd == 1)=false:=by rw[beq_eq_false_iff_ne];exact c1'
       have hdt:Hid (dk=true):=by
        rcases hd with h | h
        · exact h
        · exact absurd (by rw[HL.out.2.2.2,HQF.out h]) c1'
       have HQ1:Hid (q=((os.take (j+1)).foldl stepD (live,safe,ops,0))∧q=actL r.1 r.2.1 r.2.2.1 ⟨ok,on,ot,od⟩∧diskOk r.1 r.2.1 r.2.2.1=true):=by
        obtain⟨h1,h2⟩:=HQT.out hdt.out
        obtain⟨h3,h4⟩:=HOP.out
        refine⟨?_,?_,h2⟩
        · rw[fold_more h3,←HR1.out.1,←h4];exact h1
        · rw[h1,stepD,if_pos HR1.out.2.1]
       clear HQT HQF hd
       by_cases c0:cd=0
       · have hcz:(cd != 0)=false:=by rw[c0];rfl
         obtain⟨v0,v1,v2,_⟩:=three_cells HN15.out
         obtain⟨r0,r1,r2,rf⟩:=three_cells HBB.out
         have rf0:=rf 0
         have rf1:=rf 1
         have rf2:=rf 2
         clear rf
         have HSQ:Hid (SizeD q):=by
          obtain⟨_,h2,h3⟩:=HQ1.out
          rw[Hid,h2]
          exact size_step HR1.out.2.2.2 h3 HOD.out (by rw[←h2,←HL.out.2.2.2];exact c0)
         have HBQ:Hid (BehD w _ #[.slice a1 live.length c1,.slice a2 safe.length c2,.slice a3 ops.length c3] b12 (j+1) q):=beh_step (l1:=l1) (l2:=l2) (l3:=l3') HL.out.1 HL.out.2.1 HL.out.2.2.1 HB.out (Nat.lt_succ_of_lt HB12.out) B10.out HO10.out.1 HO10.out.2.1 HO10.out.2.2 HAP.out
         have HX4:Hid (Below w4.heap.size w4 _):=(((HX.out.trans (B10.out.mono HX.out.size)).setCell (p:=⟨b12,0,none⟩) (by rw[HB4.out];exact Nat.le_refl _) (.slice y1 l1 m1)).setCell (p:=⟨b12,1,none⟩) (by rw[HB4.out];exact Nat.le_refl _) (.slice y2 l2 m2)).setCell (p:=⟨b12,2,none⟩) (by rw[HB4.out];exact Nat.le_refl _) (.slice y3 l3' m3)
         clear HN15 HRB HDB HBB BW10 B10 HO10 hw10
         go_wp2
         go_roundw
         case rel=>exact⟨j+1,q,by omega,by go_num,HQ1.out.1,by rw[←HL.out.2.2.2];exact c0,.inl hdt.out,HSQ.out,HBQ.out,HX4.out⟩
         case measure=>simp[intOf];omega
       · have hcz:(cd != 0)=true:=by rw[bne_iff_ne];exact c0
         have HE:Hid (rr=(live,safe,ops,cd)):=by
          have h1:=HQ1.out.1
          have hlo:j+1≤os.length:=by have:=HOS.out.2;omega
          have h2:((os.take (j+1)).foldl stepD (live,safe,ops,0)).2.2.2≠0:=by rw[←h1,←HL.out.2.2.2];exact c0
          rw[Hid,HRT.out hdt.out,fold_stops hlo h2,←h1,repEnd,if_neg (by rw[←HL.out.2.2.2];exact c0),←HL.out.2.2.2]
         obtain⟨p0,p1,p2,_⟩:=three_cells HDB.out
         have KC:=HKC.out _ BW10.out
         have HSL:Hid (w.heap.size+1<_):=lt_of_block HRB.out
         clear HN15 HDB HBB B10 HO10 hw10
         go_wp2_with fail
         refine KC.mono ?_
         rintro e w11 ⟨v1,v2,v3,k1,k2,k3,rfl,n1,n2,n3,ap,b11⟩
         have R9:=(b11.block _ (lt_of_block HRB.out)).trans HRB.out
         have HY:Hid (_=_):=dk_set (j:=2) (z:=.slice v3 ops.length k3) (dk_set (j:=1) (z:=.slice v2 safe.length k2) (dk_set (j:=0) (z:=.slice v1 live.length k1) R9))
         have HP:Hid (JPost w _ _ rr):=jpost_of (q:=(live,safe,ops,cd)) rfl rfl rfl HE.out HSL.out (BW10.out.trans (b11.mono BW10.out.size)) n1 n2 n3 ap
         obtain⟨r0,r1,r2,rf⟩:=three_cells R9
         have rf0:=rf 0
         have rf1:=rf 1
         have rf2:=rf 2
         clear rf R9 n1 n2 n3 ap b11 KC p0 p1 p2 HRB BW10 HSL
         go_wp2
         refine bodyPost_ret (v:=.tuple #[.agg #[.slice v1 live.length k1,.slice v2 safe.length k2,.slice v3 ops.length k3],.int .i64 cd]) (results_disk rfl _ _ (w.heap.size+1) 31 _ (0,0) _ _ rfl HY.out Try.underlying31 rfl (by kernel_rfl) rfl) rfl ?_
         exact HP.out
   · have hje:j=ln:=by omega
     have hjl:¬ (j:Int)<(ln:Int):=by omega
     have HE:Hid (rr=(r.1,r.2.1,r.2.2.1,0)):=by
      obtain⟨h1,h2,h3,_⟩:=HR1.out
      have hdt:dk=true:=by rcases h3 with h | h;exact h;omega
      have htk:os.take j=os:=by rw[hje,HOS.out.2,List.take_length]
      rw[htk] at h1
      rw[Hid,HRT.out hdt,←h1,repEnd,if_pos h2,←h2]
     have hj0:0<j:=by omega
     obtain⟨x1,x2,x3,k1,k2,k3,h0,h1,h2,h3,h4,h5,h6,h7,h8,h9⟩:=HB.out
     obtain⟨s,hs,n1,n2,n3,ap⟩:=h9 hj0
     obtain⟨l1,hl1⟩:∃ x,x=r.1.length:=⟨_,rfl⟩
     obtain⟨l2,hl2⟩:∃ x,x=r.2.1.length:=⟨_,rfl⟩
     obtain⟨l3,hl3'⟩:∃ x,x=r.2.2.1.length:=⟨_,rfl⟩
     rw[←hl1] at h0 n1 ap
     rw[←hl2] at h0 n2 ap
     rw[←hl3'] at h0 n3 ap
     obtain⟨p0,p1,p2,_⟩:=three_cells h0
     have HY:Hid (_=_):=dk_set (j:=2) (z:=.slice x3 l3 k3) (dk_set (j:=1) (z:=.slice x2 l2 k2) (dk_set (j:=0) (z:=.slice x1 l1 k1) h8))
     have HP:Hid (JPost w _ _ rr):=jpost_of (q:=r) hl1 hl2 hl3' HE.out (Nat.lt_trans h5 hs) h6 n1 n2 n3 ap
     obtain⟨r0,r1,r2,rf⟩:=three_cells h8
     have rf0:=rf 0
     have rf1:=rf 1
     have rf2:=rf 2
     clear rf h0 h1 h2 h3 h4 h5 h6 h7 h8 h9 n1 n2 n3 ap hs hl1 hl2 hl3' hje hj0
     go_wp2
     refine bodyPost_ret (v:=.tuple #[.agg #[.slice x1 l1 k1,.slice x2 l2 k2,.slice x3 l3 k3],.int .i64 0]) (results_disk rfl _ _ (w.heap.size+1) 31 _ (0,0) _ _ rfl HY.out Try.underlying31 rfl (by kernel_rfl) rfl) rfl ?_
     exact HP.out
end Go.Proofs.Ytlllkdioojjaeaa
