/-
 Texts that are laid as one: AppP, TookAG, TookG, TookSG.
-/
import Derived.Test.YtahocpjieffbaaaGreatDoorPairs
import Derived.Laws.AppendOwnNone
import Derived.Test.YtahocpjieffbaaaGreatDoorImpOs
import Derived.Test.YtahocpjieffbaaaGreatDoorSetAll
import Derived.Deep.AppendSrc
import Derived.Deep.Upon
import Derived.OwnWalk
import Derived.Lib.AppendZerosOnto
import Derived.Lib.Walk
namespace Go.Proofs.YtahocpjieffbaaaGreatDoor
open Go.RowKit
set_option linter.unusedVariables false
theorem flat_prs {w:World} {a:Option Addr} {ad:Addr} {qs:List PairL} (h:IsPairs w a qs) (ha:a=some ad):∀ j u,(pcells qs)[j]? = some u→w.cell? (ad.add j)=some u:=by
 intro j u hu
 rcases h with rfl | ⟨b,off,h1,h2⟩
 · simp[pcells] at hu
 · rw[h1] at ha
   cases ha
   have hj:j<qs.length*2:=by
    have:=(List.getElem?_eq_some_iff.1 hu).1
    rwa [pcells_length] at this
   have hc:=h2 (j / 2) (by omega)
   have hp:=pcells_at qs (j / 2) (by omega)
   have hm:j % 2=0∨j % 2=1:=by omega
   have hadd:∀ x:Nat,(⟨b,off,none⟩:Addr).add x=⟨b,off+x,none⟩:=fun x=>by
    by_cases e:x=0
    · subst e;simp[Addr.add]
    · simp[Addr.add,e]
   rw[hadd]
   rcases hm with h0 | h0
   · have e:j=j / 2*2:=by omega
     rw[e] at hu ⊢
     rw[hp.1] at hu
     rw[hc.1,hu]
   · have e:j=j / 2*2+1:=by omega
     rw[e] at hu ⊢
     rw[hp.2] at hu
     rw[show off+(j / 2*2+1)=off+j / 2*2+1 by omega,hc.2,hu]
theorem one_prs (qs:List PairL):∀ u∈pcells qs,u.oneCell'=true:=by
 induction qs with
 | nil=>simp[pcells]
 | cons p l ih=>simpa [pcells,Value.oneCell'] using ih
theorem wpList_append_prs {P:Program} {w:World} {ops:Array Oper} {rest:List Oper} {o:Oper} {a:Act} {Q:Exit→Act→World→Prop} (hgd:o.guard=none) (s x:Operand) (t:TypeId)
 (ho:o.op=.call { callee:=.builtin .append,args:=#[s,x],argTypes:=#[t,t] })
 (base:Nat) (e:TypeId) (i:TypeInfo) (z:Value) (bytes:Nat) (ht:P.underlying t=some (.slice e)) (hi:P.info? e=some i) (hz:i.zero=some z)
 (hsize:i.size=2) (hby:i.bytes=bytes) (hzs:z.cells.size=2)
 (v:Value) (n:Nat) (xs:List Value) (hs:a.eval s=v) (hown:w.ownsRow base e 2 v n xs)
 (a2:Option Addr) (qs:List PairL) (m c:Nat) (hm:m=qs.length) (hx:a.eval x=.slice a2 m c) (hc:a2=none→c=0) (hp:IsPairs w a2 qs)
 (h63:n+m≤maxLen) (hbytes:(n+m)*bytes≤140737488355328) (hbase:base≤w.heap.size)
 (h:∀ v' w',w'.ownsRow base e 2 v' (n+m) (xs ++ pcells qs)→w.grownBy w' v.ownBlock→wpList P ops Q rest (a.put o.dst v') w'):wpList P ops Q (o :: rest) a w:=by
 subst hm
 cases a2 with
 | none =>
   have hq:qs=[]:=by
    rcases hp with h | ⟨b,off,h,_⟩
    · exact h
    · cases h
   subst hq
   obtain rfl:=hc rfl
   refine wpList_append_own_none hgd s x t ho base e i 2 ht hi v n xs hs hown hx (h v w ?_ (World.grownBy.refl _ _))
   simpa [pcells] using hown
 | some ad=>exact wpList_append_own w hgd s x t ho base e i z 2 bytes ht hi hz hsize hby hzs (by decide) v n xs hs hown ad qs.length c (pcells qs) hx (pcells_length qs) (flat_prs hp rfl) (one_prs qs) h63 hbytes hbase (fun v' w' h1 h2 _=>h v' w' h1 h2)
set_option maxHeartbeats 1000000 in
set_option maxRecDepth 100000 in
theorem grow_any (n:Nat) (w:World) (hn:n≤1000) :
 Calls Tryz.prog 82 #[.slice none 0 0,.int .i64 (n:Int)] w fun e w'=>∃ (a:Option Addr) (c:Nat),e=.returned (.slice a 0 c)∧w'.ownsRow w.heap.size 56 2 (.slice a 0 c) 0 []∧Below w.heap.size w w':=by
 obtain⟨i0,hi0,hz0,hz1,hz2⟩:=info_parts infoPair
 have h0:¬ ((n:Int)<0):=by omega
 by_cases hp:0<n
 · have h1:(0:Int)<(n:Int):=by omega
   have hrz:∀ ty,(Builtin.append_ #[24,3] ty #[.slice none 0 0,.int .i64 (n:Int)]).run Tryz.prog w=_:=fun ty=>Lib.run_append_grow_zeros w 24 3 ty 56 i0 _ .i64 .i64 Tryz.underlying24 Tryz.underlying3 hi0 hz0 none 0 0 [] (run_firstCells_none w.drew i0.size 0 0 0) n hp (by omega) (by omega) (by omega) (by rw[hz2];omega) (by rw[hz2];exact growslice_fits (by omega) (by omega))
   have hG1:=grownCap_ge w n 0 56
   have hG2:=grownCap_le_maxLen w n 0 56 (by unfold maxLen;omega)
   simp only[Nat.zero_add] at hrz
   obtain⟨G,hG⟩:∃ G,G=grownCap w n 0 56:=⟨_,rfl⟩
   rw[←hG] at hG1 hG2 hrz
   obtain⟨cur,hcur⟩:∃ cur,cur=((([]:List Value).toArray ++ Builtin.zeroCells (Value.agg #[.string ⟨#[]⟩,.string ⟨#[]⟩]).cells n ++ Builtin.zeroCells (Value.agg #[.string ⟨#[]⟩,.string ⟨#[]⟩]).cells (G - n))):=⟨_,rfl⟩
   have hsz:Hid (cur.size=G*2):=by
    rw[Hid,hcur];simp[Builtin.zeroCells,Value.cells];omega
   rw[←hcur] at hrz
   have HG:Hid (G≤maxLen):=hG2
   have hG3:(0:Int)≤(G:Int):=by omega
   clear hG hcur hG2
   go_enter Tryz.func82,Tryz.ntmps82
   go_wp2_with (at_builtin;refine Lib.wpList_append_run _ rfl _ _ _ _ rfl _ _ rfl rfl _ _ (hrz _) ?_)
   go_ret
   refine⟨some ⟨w.heap.size,0,none⟩,G,rfl,?_,by first | exact ((Below.refl _ _).alloc (Nat.le_refl _) _).drew | exact ((Below.refl _ _).drew).alloc (by simp) _⟩
   refine⟨by simp,.inr ⟨w.heap.size,G,cur,rfl,Nat.le_refl _,?_,Nat.zero_le _,HG.out,hsz.out,by simp⟩⟩
   have:=heap_alloc_new w (.cells cur 56)
   first | exact this | simpa using this
 · have h1:n=0:=by omega
   subst h1
   go_enter Tryz.func82,Tryz.ntmps82
   go_wp2
   go_ret
   exact⟨none,0,rfl,World.ownsRow_nil _ _ _ _,Below.refl _ _⟩
theorem pcells_two (ps qs:List PairL):pcells (ps ++ qs)=pcells ps ++ pcells qs:=by
 induction ps with
 | nil=>rfl
 | cons p ps ih=>simp[pcells,ih]
theorem two_cellsT {w:World} {g:Nat} {u v:Value} {T:TypeId} (h:w.heap[g]? = some (.cells #[u,v] T)):w.cell? ⟨g,0,none⟩=some u∧w.cell? ⟨g,1,none⟩=some v:=by
 constructor <;> (unfold World.cell?;rw[h];rfl)
theorem clone_anyN (a:Option Addr) (cap:Nat) (qs:List PairL) (w:World) (haa:a=none∨∃ b off,a=some ⟨b,off,none⟩) (hca:a=none→cap=0) (hl:qs.length≤1000) (hs:IsPairs w a qs) :
 Calls Tryz.prog 30 #[.slice a qs.length cap] w fun e w'=>∃ (a:Option Addr) (m c:Nat),e=.returned (.slice a m c)∧w'.ownsRow w.heap.size 56 2 (.slice a m c) qs.length (pcells qs)∧Below w.heap.size w w':=by
 rcases haa with rfl | ⟨b,off,rfl⟩
 · obtain rfl:=hca rfl
   have hq:qs=[]:=by
    rcases hs with h | ⟨_,_,h,_⟩
    · exact h
    · cases h
   subst hq
   exact (clone_none w).mono fun e w' ⟨h1,h2⟩=>⟨none,0,0,h1,World.ownsRow_nil _ _ _ _,by rw[h2];exact Below.refl _ _⟩
 · exact clone_any b off cap qs w hl hs
theorem src_nil {x:Option Addr} {c:Nat} {w:World}:Src Tryz.prog 2 24 (.slice x 0 c) 0 [] w:=by
 cases x with
 | none=>exact Src.ofNil w Tryz.underlying24 c
 | some a=>exact Src.ofSlice w Tryz.underlying24 a 0 c [] (by simp) (by simp) (by simp)
set_option maxHeartbeats 2000000 in
set_option maxRecDepth 100000 in
theorem concat_x (adA adB:Option Addr) (c1 c2:Nat) (ps qs:List PairL) (g:Nat) (w:World) (haa:adA=none∨∃ b off,adA=some ⟨b,off,none⟩) (hca:adA=none→c1=0) (haa2:adB=none∨∃ b off,adB=some ⟨b,off,none⟩) (hca2:adB=none→c2=0) (hl:ps.length≤100) (hl2:qs.length≤100) (hcell:w.heap[g]? = some (.cells #[.slice adA ps.length c1,.slice adB qs.length c2] 24)) (hs:IsPairs w adA ps) (hs2:IsPairs w adB qs) :
 Calls Tryz.prog 55 #[.slice (some ⟨g,0,none⟩) 2 2] w fun e w'=>∃ (a:Option Addr) (m c:Nat),e=.returned (.slice a m c)∧w'.ownsRow w.heap.size 56 2 (.slice a m c) (ps ++ qs).length (pcells (ps ++ qs))∧Below w.heap.size w w':=by
 obtain⟨i0,hi0,hz0,hz1,hz2⟩:=info_parts infoPair
 obtain⟨p0,p1⟩:=two_cellsT hcell
 have HS:Hid (∀ W,Below w.heap.size w W→IsPairs W adA ps):=fun W hW=>hs.later hW
 have HS2:Hid (∀ W,Below w.heap.size w W→IsPairs W adB qs):=fun W hW=>hs2.later hW
 have HC:Hid (_=_):=hcell
 have hw1:wrap64 (ps.length:Int)=(ps.length:Int):=by unfold wrap64;omega
 have hw2:wrap64 ((ps.length:Int)+(qs.length:Int))=(ps.length:Int)+(qs.length:Int):=by unfold wrap64;omega
 have hn1:¬ ((ps.length:Int)<0):=by omega
 have hn2:¬ ((ps.length:Int)+(qs.length:Int)<0):=by omega
 have HCA:Hid (adA=none→c1=0):=hca
 have HCB:Hid (adB=none→c2=0):=hca2
 clear hs hs2 hcell hca hca2 haa haa2
 go_enter Tryz.func55,Tryz.ntmps55
 go_wp2
 refine wp_loop_rounds 3 ?_
 rw[rounds_succ]
 go_wp2
 rw[rounds_succ]
 go_wp2
 rw[rounds_succ]
 have K:=fun W=>grow_any (ps.length+qs.length) W (by omega)
 simp only[Int.natCast_add] at K
 go_wp2_with fail
 refine (K _).mono ?_
 rintro e w1 ⟨a1,k1,rfl,o1',B1⟩
 obtain⟨p0',p1'⟩:=two_cellsT ((B1.block g (lt_of_block HC.out)).trans HC.out)
 have HO1:=hidOwn o1'
 have HF1:Hid (IsPairs w1 adA ps):=HS.out w1 B1
 clear p0 p1 o1' K
 go_wp2
 refine wp_loop_rounds 3 ?_
 rw[rounds_succ]
 have hsz1:=B1.size
 go_wp2_with (at_builtin;refine wpList_append_prs rfl _ _ 24 rfl w.heap.size 56 i0 (.agg #[.string ⟨#[]⟩,.string ⟨#[]⟩]) 32 Tryz.underlying24 hi0 hz0 hz1 hz2 rfl (.slice a1 0 k1) 0 [] rfl HO1.out adA ps ps.length c1 rfl rfl HCA.out HF1.out (by unfold maxLen;omega) (by omega) (by first | exact hsz1 | omega | (simp <;> omega)) ?_;intro v3 w3 hown3 hgrow3;obtain⟨a3,m3,c3,rfl⟩:=own_slice2 hown3)
 have B3:Below w.heap.size w w3:=B1.grown hgrow3 hsz1 (fun k hk=>(HO1.out.lt k hk).1)
 have HO3:Hid (w3.ownsRow w.heap.size 56 2 (.slice a3 m3 c3) ps.length (pcells ps)):=by rw[Hid];simpa using hown3
 obtain⟨q0,q1⟩:=two_cellsT ((B3.block g (lt_of_block HC.out)).trans HC.out)
 have HF3:Hid (IsPairs w3 adB qs):=HS2.out w3 B3
 have hsz3:=B3.size
 clear hown3 hgrow3 p0' p1' HF1
 go_wp2
 rw[rounds_succ]
 go_wp2_with (at_builtin;refine wpList_append_prs rfl _ _ 24 rfl w.heap.size 56 i0 (.agg #[.string ⟨#[]⟩,.string ⟨#[]⟩]) 32 Tryz.underlying24 hi0 hz0 hz1 hz2 rfl (.slice a3 m3 c3) ps.length _ rfl HO3.out adB qs qs.length c2 rfl rfl HCB.out HF3.out (by unfold maxLen;omega) (by omega) (by first | exact hsz3 | omega | (simp <;> omega)) ?_;intro v4 w4 hown4 hgrow4;obtain⟨a4,m4,c4,rfl⟩:=own_slice2 hown4)
 have B4:Below w.heap.size w w4:=B3.grown hgrow4 hsz3 (fun k hk=>(HO3.out.lt k hk).1)
 have HO4:Hid (w4.ownsRow w.heap.size 56 2 (.slice a4 m4 c4) (ps ++ qs).length (pcells (ps ++ qs))):=by rw[Hid,pcells_two,List.length_append];exact hown4
 clear hown4 hgrow4 q0 q1 HF3
 go_wp2
 rw[rounds_succ]
 go_wp2
 go_ret
 exact⟨a4,m4,c4,rfl,HO4.out,B4⟩
def followsB (n:Nat) (f l:Bool) (m:Nat):Bool:=(f == decide (n=0)) && (decide (m≤8) && (decide (0<m) || (f && l)))
set_option maxHeartbeats 2000000 in
set_option maxRecDepth 100000 in
theorem follows_any (n m : Nat) (f l : Bool) (x y : Option Addr) (cx cy : Nat) (w : World) (hl : n ≤ 1048576) (hl2 : m ≤ 1048576) :
 Calls Tryz.prog 31 #[.agg #[.bool f,.bool l,.slice y m cy],.slice x n cx,.int .i64 8] w fun e w'=>e=.returned (.bool (followsB n f l m))∧Below w.heap.size w w':=by
 have B0:Below w.heap.size w (w.alloc (.cells #[.bool f,.bool l,.slice y m cy] 58)):=(Below.refl _ _).alloc (Nat.le_refl _) _
 obtain⟨p0,p1,p2,_⟩:=im_cells (heap_alloc_new w (.cells #[.bool f,.bool l,.slice y m cy] 58))
 have hp:n=0∨Hid (0<n)∧((n:Int) == 0)=false:=by
  rcases Nat.eq_zero_or_pos n with h | h
  · exact .inl h
  · exact .inr ⟨h,by simp;omega⟩
 have hq:m=0∨(Hid (0<m∧m≤8)∧(8<(m:Int))=False∧(0:Int)<(m:Int))∨(Hid (8<m)∧(8:Int)<(m:Int)):=by
  rcases Nat.eq_zero_or_pos m with h | h
  · exact .inl h
  · by_cases h8:m≤8
    · exact .inr (.inl ⟨⟨h,h8⟩,eq_false (by omega),by omega⟩)
    · exact .inr (.inr ⟨by rw[Hid];omega,by omega⟩)
 obtain⟨b,hb⟩:∃ b,b=followsB n f l m:=⟨_,rfl⟩
 rw[←hb]
 rcases hp with rfl | ⟨HP,hp⟩ <;> rcases hq with rfl | ⟨HQ,hq,hq0⟩ | ⟨HQ,hq⟩ <;> cases f <;> cases l
 all_goals
  have HB:b=true∨b=false:=by cases b <;> simp
  unfold followsB at hb
  first
   | (have e : b = false := by
        rw[hb];try have HP:=HP.out
        try have HQ:=HQ.out
        simp <;> omega
      rw[e];clear e hb HB)
   | (have e : b = true := by
        rw[hb];try have HP:=HP.out
        try have HQ:=HQ.out
        simp <;> omega
      rw[e];clear e hb HB)
  go_enter Tryz.func31,Tryz.ntmps31
  go_wp2
  all_goals first
   | (exfalso;have HQ:=HQ.out;omega)
   | (exfalso;simp_all;done)
   | (go_ret;exact⟨rfl,B0⟩)
set_option linter.unusedSimpArgs false
set_option maxHeartbeats 2000000 in
set_option maxRecDepth 100000 in
theorem behind_any (adA adB:Option Addr) (c1 c2:Nat) (ps qs:List PairL) (f l:Bool) (w:World) (haa:adA=none∨∃ b off,adA=some ⟨b,off,none⟩) (hca:adA=none→c1=0) (haa2:adB=none∨∃ b off,adB=some ⟨b,off,none⟩) (hca2:adB=none→c2=0) (hl:ps.length≤100) (hl2:qs.length≤100) (hs:IsPairs w adA ps) (hs2:IsPairs w adB qs) :
 Calls Tryz.prog 32 #[.agg #[.bool f,.bool l,.slice adB qs.length c2],.slice adA ps.length c1] w fun e w'=>∃ (a:Option Addr) (m c:Nat),e=.returned (.slice a m c)∧w'.ownsRow w.heap.size 56 2 (.slice a m c) (ps ++ qs).length (pcells (ps ++ qs))∧Below w.heap.size w w':=by
 obtain⟨wa,hwa⟩:∃ wa,wa=w.alloc (.cells #[.bool f,.bool l,.slice adB qs.length c2] 58):=⟨_,rfl⟩
 have B0:Below w.heap.size w wa:=by rw[hwa];exact (Below.refl _ _).alloc (Nat.le_refl _) _
 have hza:wa.heap.size=w.heap.size+1:=by rw[hwa];simp
 obtain⟨p0,p1,p2,_⟩:=im_cells (heap_alloc_new w (.cells #[.bool f,.bool l,.slice adB qs.length c2] 58))
 have B1:Below w.heap.size w (wa.alloc (.cells #[.slice adA ps.length c1,.slice adB qs.length c2] 24)):=B0.alloc (by omega) _
 have K:=concat_x adA adB c1 c2 ps qs wa.heap.size _ haa hca haa2 hca2 hl hl2 (heap_alloc_new wa _) (hs.later B1) (hs2.later B1)
 rw[hza,hwa] at K
 rw[hwa] at B1
 clear hs hs2 B0 hza hwa wa haa haa2 hca hca2
 go_enter Tryz.func32,Tryz.ntmps32
 go_wp2_with fail
 refine K.mono ?_
 rintro e w2 ⟨a2,m2,k2,rfl,o2',b2'⟩
 have B2:=B1.trans (b2'.mono B1.size)
 have O2:=hidOwn (o2'.mono B1.size)
 clear o2' b2' K p0 p1 p2
 go_wp2
 go_ret
 exact⟨a2,m2,k2,rfl,O2.out,B2⟩
def tookB (r:List UInt8) (ps:List PairL) (d f l:Bool) (qs:List PairL):Bool:=importB r ps d && (!d && (followsB ps.length f l qs.length && (pairsOkL (ps ++ qs) && (!l || (rootOk (ps ++ qs) && decide (rootR (ps ++ qs)=r))))))
def tookRoot (r:List UInt8) (ps:List PairL) (d:Bool):List UInt8:=if importB r ps d=true then r else []
def tookPs (r:List UInt8) (ps:List PairL) (d f l:Bool) (qs:List PairL):List PairL:=if importB r ps d=true then (if tookB r ps d f l qs=true then ps ++ qs else ps) else []
def tookD (r:List UInt8) (ps:List PairL) (d f l:Bool) (qs:List PairL):Bool:=if tookB r ps d f l qs=true then l else (importB r ps d && d)
theorem two_heap (w:World) (x y:Obj):((w.alloc x).alloc y).heap[w.heap.size]? = some x∧((w.alloc x).alloc y).heap[w.heap.size+1]? = some y:=by
 constructor
 · rw[Below.heap_alloc _ _ _ (by simp)];exact heap_alloc_new _ _
 · have:=heap_alloc_new (w.alloc x) y
   simpa using this
theorem im_set_cell {w:World} {b:Nat} {x y z:Value} {a:Addr} (h:a.block≠b):(((w.setCell ⟨b,0,none⟩ x).setCell ⟨b,1,none⟩ y).setCell ⟨b,2,none⟩ z).cell? a=w.cell? a :=
 World.cell?_of_block ((Below.heap_setCell _ _ _ _ (by simpa using h)).trans ((Below.heap_setCell _ _ _ _ (by simpa using h)).trans (Below.heap_setCell _ _ _ _ (by simpa using h))))
theorem im_alloc_drew {w w':World} {o:Obj} (h:Below (w.alloc o).drew.heap.size (w.alloc o).drew w'):w.heap.size<w'.heap.size∧Below w.heap.size w w'∧w'.heap[w.heap.size]? = some o:=by
 have e:(w.alloc o).drew.heap.size=w.heap.size+1:=by show (w.alloc o).heap.size=_;simp
 have h':Below (w.heap.size+1) (w.alloc o) w':=⟨h.os,h.tape,h.output,h.size,fun k hk=>h.block k (by rw[e];exact hk)⟩
 have hsz:w.heap.size+1≤w'.heap.size:=by have:=h.size;rw[e] at this;exact this
 exact⟨hsz,((Below.refl w.heap.size w).alloc (Nat.le_refl _) _).trans (h'.mono (by omega)),(h'.block _ (by omega)).trans (heap_alloc_new w _)⟩
theorem im_store {B base bs n size:Nat} {t e:TypeId} {w0 w:World} {xs:List Value} {u v z s:Value} (hz:w.heap[bs]? = some (.cells #[u,v,z] t (0,0))) (hb:B≤bs) (hB:Below B w0 w) (ho:w.ownsRow base e size s n xs) (hk:s.ownBlock≠some bs) (x y q:Value) :
 (((w.setCell ⟨bs,0,none⟩ x).setCell ⟨bs,1,none⟩ y).setCell ⟨bs,2,none⟩ q).heap[bs]? = some (.cells #[x,y,q] t (0,0))∧Below B w0 (((w.setCell ⟨bs,0,none⟩ x).setCell ⟨bs,1,none⟩ y).setCell ⟨bs,2,none⟩ q)∧(((w.setCell ⟨bs,0,none⟩ x).setCell ⟨bs,1,none⟩ y).setCell ⟨bs,2,none⟩ q).ownsRow base e size s n xs :=
 ⟨im_set (j := 2) (im_set (j := 1) (im_set (j := 0) hz)), ((hB.setCell (by simpa using hb) _).setCell (by simpa using hb) _).setCell (by simpa using hb) _,
  ownsRow_setCell_other (ownsRow_setCell_other (ownsRow_setCell_other ho hk _) hk _) hk _⟩
set_option maxRecDepth 100000 in
set_option maxHeartbeats 2000000 in
theorem impl_took (r : List UInt8) (adA adB : Option Addr) (cp cp2 : Nat) (ps qs : List PairL) (d f l : Bool) (w : World) (haa : adA = none ∨ ∃ b off, adA = some ⟨b, off, none⟩) (hca : adA = none → cp = 0) (haa2 : adB = none ∨ ∃ b off, adB = some ⟨b, off, none⟩) (hca2 : adB = none → cp2 = 0) (hr : r.length ≤ 1048576) (hl : ps.length ≤ 1048576) (hm : ∀ p ∈ ps, p.1.length ≤ 1048576 ∧ p.2.length ≤ 1048576) (hl2 : qs.length ≤ 1048576) (hm2 : ∀ p ∈ qs, p.1.length ≤ 1048576 ∧ p.2.length ≤ 1048576) (hs : IsPairs w adA ps) (hs2 : IsPairs w adB qs) (hT : Tab w) :
 Calls Tryz.prog 11 #[.agg #[.string ⟨r.toArray⟩,.slice adA ps.length cp,.bool d],.agg #[.bool f,.bool l,.slice adB qs.length cp2]] w fun e w'=>∃ (a:Option Addr) (m c:Nat),e=.returned (.tuple #[.agg #[.string ⟨(tookRoot r ps d).toArray⟩,.slice a m c,.bool (tookD r ps d f l qs)],.bool (tookB r ps d f l qs)])∧w'.ownsRow w.heap.size 56 2 (.slice a m c) (tookPs r ps d f l qs).length (pcells (tookPs r ps d f l qs))∧Below w.heap.size w w':=by
 obtain⟨wz,hwz⟩:∃ wz,wz=(w.alloc (.cells #[.string ⟨r.toArray⟩,.slice adA ps.length cp,.bool d] 33)).alloc (.cells #[.bool f,.bool l,.slice adB qs.length cp2] 38):=⟨_,rfl⟩
 obtain⟨w0,hw0⟩:∃ w0,w0=wz.alloc (.cells #[.string ⟨#[]⟩,.slice none 0 0,.bool false] 33):=⟨_,rfl⟩
 have hsz:wz.heap.size=w.heap.size+2:=by rw[hwz];simp
 have hsz0:w0.heap.size=w.heap.size+3:=by rw[hw0];simp[hsz]
 have Bz:Below w.heap.size w wz:=by rw[hwz];exact ((Below.refl _ _).alloc (Nat.le_refl _) _).alloc (by simp) _
 have z0:Below (w.heap.size+2) wz w0:=by rw[hw0];exact (Below.refl _ _).alloc (by omega) _
 have B0:Below w.heap.size w w0:=Bz.trans (z0.mono (by omega))
 obtain⟨g1,g2⟩:=two_heap w (.cells #[.string ⟨r.toArray⟩,.slice adA ps.length cp,.bool d] 33) (.cells #[.bool f,.bool l,.slice adB qs.length cp2] 38)
 rw[←hwz] at g1 g2
 have HC1:Hid (∀ W,Below (w.heap.size+2) wz W→_):=fun W h=>im_cells ((h.block w.heap.size (by omega)).trans g1)
 have HC2:Hid (∀ W,Below (w.heap.size+2) wz W→_):=fun W h=>im_cells ((h.block (w.heap.size+1) (by omega)).trans g2)
 have K1:=impl_importOk r adA cp ps d w0 hr hl hm (hs.later B0) (hT.later B0)
 have HT:Hid (∀ W,Below w.heap.size w W→Tab W):=fun W h=>hT.later h
 have HS:Hid (∀ W,Below w.heap.size w W→IsPairs W adA ps):=fun W hW=>hs.later hW
 have HS2:Hid (∀ W,Below w.heap.size w W→IsPairs W adB qs):=fun W hW=>hs2.later hW
 have HM:Hid (∀ p∈ps ++ qs,p.1.length≤1048576∧p.2.length≤1048576):=fun p hp=>(List.mem_append.1 hp).elim (hm p) (hm2 p)
 have HP:Hid (importB r ps d=true→ps.length≤60):=fun h=>by
  unfold importB at h
  simp only[Bool.and_eq_true] at h
  exact (pairsOk_of ps h.2.1).1
 have HZ0:Hid (w0.heap[w.heap.size+2]? = some (.cells #[.string ⟨#[]⟩,.slice none 0 0,.bool false] 33 (0,0))):=by rw[Hid,hw0,←hsz];exact heap_alloc_new wz _
 have HW0:Hid (w0=_):=hw0.trans (by rw[hwz])
 rw[HW0.out] at K1
 have HXX:Hid ((adA=none∨∃ b off,adA=some ⟨b,off,none⟩)∧(adA=none→cp=0)∧(adB=none∨∃ b off,adB=some ⟨b,off,none⟩)∧(adB=none→cp2=0)):=⟨haa,hca,haa2,hca2⟩
 clear hs hs2 hm hm2 hT g1 g2 hw0 hwz haa hca haa2 hca2
 cases hi:importB r ps d with
 | false =>
   have e1:tookB r ps d f l qs=false:=by simp[tookB,hi]
   have e2:tookPs r ps d f l qs=[]:=by simp[tookPs,hi]
   have e3:tookRoot r ps d=[]:=by simp[tookRoot,hi]
   have e4:tookD r ps d f l qs=false:=by simp[tookD,e1,hi]
   rw[e1,e2,e3,e4]
   rw[hi] at K1
   clear e1 e2 e3 e4 hi
   go_enter Tryz.func11,Tryz.ntmps11
   go_wp2_with fail
   refine K1.mono ?_
   rintro e w1 ⟨rfl,b1⟩
   rw[←HW0.out] at b1
   have B1:=B0.trans (b1.mono B0.size)
   obtain⟨_,_,_,z4⟩:=im_cells ((b1.block (w.heap.size+2) (by omega)).trans HZ0.out)
   have y1:=im_store ((b1.block (w.heap.size+2) (by omega)).trans HZ0.out) (by omega) B1 (World.ownsRow_nil w1 w.heap.size 56 2) (by simp[Value.ownBlock]) (.string ⟨#[]⟩) (.slice none 0 0) (.bool false)
   have HY:Hid (_∧_∧_):=y1
   have z40:=z4 0
   have z41:=z4 1
   have z42:=z4 2
   clear y1 z4
   go_wp2
   exact bodyPost_ret (v:=.tuple #[.agg #[.string ⟨#[]⟩,.slice none 0 0,.bool false],.bool false]) (results_im rfl _ _ (w.heap.size+2) 33 _ _ rfl HY.out.1 Tryz.underlying33 rfl (by kernel_rfl) _ rfl) rfl ⟨none,0,0,rfl,HY.out.2.2,HY.out.2.1⟩
 | true =>
   have hp60:=HP.out hi
   have e1:tookRoot r ps d=r:=by simp[tookRoot,hi]
   have HE:Hid (tookB r ps d f l qs=(!d && (followsB ps.length f l qs.length && (pairsOkL (ps ++ qs) && (!l || (rootOk (ps ++ qs) && decide (rootR (ps ++ qs)=r))))))∧tookPs r ps d f l qs=(if tookB r ps d f l qs=true then ps ++ qs else ps)∧tookD r ps d f l qs=(if tookB r ps d f l qs=true then l else d)):=by
    refine⟨by simp[tookB,hi],by simp[tookPs,hi],by simp[tookD,hi]⟩
   rw[e1]
   obtain⟨tb,htb⟩:∃ x,x=tookB r ps d f l qs:=⟨_,rfl⟩
   obtain⟨tp,htp⟩:∃ x,x=tookPs r ps d f l qs:=⟨_,rfl⟩
   obtain⟨td,htd⟩:∃ x,x=tookD r ps d f l qs:=⟨_,rfl⟩
   rw[←htb,←htp,←htd] at HE ⊢
   rw[hi] at K1
   have HSZ:Hid (w0.heap.size=w.heap.size+3):=hsz0
   clear e1 hi htb htp htd hsz0
   go_enter Tryz.func11,Tryz.ntmps11
   go_wp2_with fail
   refine K1.mono ?_
   rintro e w1 ⟨rfl,b1⟩
   rw[←HW0.out] at b1
   have B1:=B0.trans (b1.mono B0.size)
   have z1:=z0.trans (b1.mono (by rw[HSZ.out];omega))
   have s1:=b1.size
   rw[HSZ.out] at s1
   have HZ1:Hid (_=_):=(b1.block (w.heap.size+2) (by rw[HSZ.out];omega)).trans HZ0.out
   obtain⟨p0',p1',p2',_⟩:=HC1.out w1 z1
   have K2:=clone_anyN adA cp ps w1.drew HXX.out.1 HXX.out.2.1 (by omega) (HS.out _ B1.drew)
   have K2A:=clone_anyN adA cp ps (w1.alloc (.cells #[.string ⟨#[]⟩,.slice none 0 0,.bool false] 33)).drew HXX.out.1 HXX.out.2.1 (by omega) (HS.out _ (B1.alloc B1.size _).drew)
   clear K1 b1
   go_wp2_with fail
   go_cut [6] from 13 (fun v wx=>∃ (bs:Nat) (a:Option Addr) (m c:Nat),v=.pointer (some ⟨bs,0,none⟩)∧Hid (wx.heap[bs]? = some (.cells #[.string ⟨r.toArray⟩,.slice a m c,.bool d] 33 (0,0)))∧Hid (w1.heap.size≤bs)∧Hid (Below w1.heap.size w1 wx)∧Hid (wx.ownsRow w1.heap.size 56 2 (.slice a m c) ps.length (pcells ps))∧Hid ((Value.slice a m c).ownBlock≠some bs))
   case first =>
    go_region_held3 (fun w'=>w'.cell? ⟨w.heap.size,0,none⟩=some (.string ⟨r.toArray⟩)∧w'.cell? ⟨w.heap.size,1,none⟩=some (.slice adA ps.length cp)∧w'.cell? ⟨w.heap.size,2,none⟩=some (.bool d))
     (first | (exact⟨by assumption,by assumption,by assumption⟩) | (with_reducible exact⟨(im_set_cell (by simp;omega)).trans (by assumption),(im_set_cell (by simp;omega)).trans (by assumption),(im_set_cell (by simp;omega)).trans (by assumption)⟩) | go_keep)
     (first
      | (go_at_call 30
         with_reducible refine K2A.mono ?_
         rintro e w5 ⟨a5,m5,k5,rfl,o5,b5'⟩
         obtain⟨s5,b5,hzA⟩:=im_alloc_drew b5'
         have q5a:=(b5.cell (p:=⟨w.heap.size,0,none⟩) (by simp;omega)).trans p0'
         have q5b:=(b5.cell (p:=⟨w.heap.size,1,none⟩) (by simp;omega)).trans p1'
         have q5c:=(b5.cell (p:=⟨w.heap.size,2,none⟩) (by simp;omega)).trans p2'
         have HN:Hid (Below w1.heap.size w1 w5∧w5.heap[w1.heap.size]? = some (.cells #[.string ⟨#[]⟩,.slice none 0 0,.bool false] 33)∧(Value.slice a5 m5 k5).ownBlock≠some w1.heap.size):=⟨b5,hzA,fun h=>by have:=(o5.lt _ h).1;have e:(w1.alloc (.cells #[.string ⟨#[]⟩,.slice none 0 0,.bool false] 33)).drew.heap.size=w1.heap.size+1:=(by show (w1.alloc (.cells #[.string ⟨#[]⟩,.slice none 0 0,.bool false] 33)).heap.size=_;simp);omega⟩
         have O5:=hidOwn o5
         obtain⟨y0,y1,y2,yf⟩:=im_cells HN.out.2.1
         have yf0:=yf 0
         have yf1:=yf 1
         have yf2:=yf 2
         clear o5 b5 b5' yf)
      | (go_at_call 30
         with_reducible refine K2.mono ?_
         rintro e w5 ⟨a5,m5,k5,rfl,o5,b5'⟩
         have b5:Below w1.heap.size w1 w5:=⟨b5'.os,b5'.tape,b5'.output,b5'.size,b5'.block⟩
         have q5a:=(b5.cell (p:=⟨w.heap.size,0,none⟩) (by simp;omega)).trans p0'
         have q5b:=(b5.cell (p:=⟨w.heap.size,1,none⟩) (by simp;omega)).trans p1'
         have q5c:=(b5.cell (p:=⟨w.heap.size,2,none⟩) (by simp;omega)).trans p2'
         have HC:Hid (Below w1.heap.size w1 w5∧(Value.slice a5 m5 k5).ownBlock≠some w5.heap.size):=⟨b5,fun h=>by have:=(o5.lt _ h).2;omega⟩
         have O5:=hidOwn o5
         clear o5 b5 b5'))
    all_goals go_wp2_with fail
    · go_meet
      case rel =>
       have hc:=HC.out
       exact⟨w5.heap.size,a5,m5,k5,rfl,heap_alloc_new w5 _,hc.1.size,hc.1.alloc hc.1.size _,(O5.out.alloc _).mono (Nat.le_refl _),hc.2⟩
    · go_meet
      case rel =>
       have hn:=HN.out
       have ts:=im_store hn.2.1 (Nat.le_refl _) hn.1 O5.out hn.2.2 (.string ⟨r.toArray⟩) (.slice a5 m5 k5) (.bool d)
       exact⟨w1.heap.size,a5,m5,k5,rfl,ts.1,Nat.le_refl _,ts.2.1,ts.2.2.mono (by show _≤(w1.alloc _).heap.size;simp),hn.2.2⟩
   case rest =>
    obtain⟨bs,a3,m3,k3,rfl,HSm,HB,HW,HO,HK⟩:=hcut
    obtain⟨w2,rfl⟩:∃ W,W=wc:=⟨_,rfl⟩
    have b2':=HW.out
    have s2:=b2'.size
    have B2:=B1.trans (b2'.mono B1.size)
    have z2:=z1.trans (b2'.mono (by omega))
    have HZ2:Hid (_=_):=(b2'.block (w.heap.size+2) (by omega)).trans HZ1.out
    have hbs:=HB.out
    have lbs:=lt_of_block HSm.out
    obtain⟨q0,q1,q2,_⟩:=HC2.out w2 z2
    clear K2 K2A b2' p0' p1' p2'
    obtain⟨w3,hw3⟩:∃ w3,w3=w2.alloc (.cells #[.bool f,.bool l,.slice adB qs.length cp2] 58):=⟨_,rfl⟩
    have b3:Below w2.heap.size w2 w3:=by rw[hw3];exact (Below.refl _ _).alloc (Nat.le_refl _) _
    have hs3:w3.heap.size=w2.heap.size+1:=by rw[hw3];simp
    have B3:=B2.trans (b3.mono B2.size)
    have z3:=z2.trans (b3.mono (by omega))
    have HT3:Hid (w3.heap[w2.heap.size]? = some (.cells #[.bool f,.bool l,.slice adB qs.length cp2] 58 (0,0))):=by rw[Hid,hw3];exact heap_alloc_new w2 _
    have HZ3:Hid (_=_):=(b3.block (w.heap.size+2) (by omega)).trans HZ2.out
    have HSm3:Hid (_=_):=(b3.block bs (by omega)).trans HSm.out
    have O3:Hid (w3.ownsRow w1.heap.size 56 2 (.slice a3 m3 k3) ps.length (pcells ps)):=by rw[Hid,hw3];exact HO.out.alloc _
    obtain⟨p0,p1,p2,_⟩:=HC1.out w3 z3
    obtain⟨t0,t1,t2,_⟩:=im_cells HT3.out
    obtain⟨x0,x1,x2,_⟩:=im_cells HSm3.out
    have HW3:Hid (_=_):=hw3
    rw[hw3] at p0 p1 p2 t0 t1 t2 x0 x1 x2
    have HNE:Hid ((Value.slice a3 m3 k3).ownBlock≠some (w.heap.size+2)):=fun h=>by have:=(HO.out.lt _ h).1;omega
    cases d with
    | true =>
      have HEQ0:Hid (tb=false∧tp=ps∧td=true):=by
       obtain⟨h1,h2,h3⟩:=HE.out
       simp only[Bool.not_true,Bool.false_and] at h1
       rw[h1] at h2 h3
       simp only[Bool.false_eq_true,if_false] at h2 h3
       exact⟨h1,h2,h3⟩
      clear HE
      have HEQ:=HEQ0.out
      obtain⟨y0,y1,y2,yf⟩:=im_cells HZ3.out
      have yf0:=yf 0
      have yf1:=yf 1
      have yf2:=yf 2
      have HY:Hid (_∧_∧_):=im_store HZ3.out (by omega) B3 (O3.out.mono (base':=w.heap.size) (by omega)) HNE.out (.string ⟨r.toArray⟩) (.slice a3 m3 k3) (.bool true)
      rw[hw3] at y0 y1 y2 yf0 yf1 yf2 HY
      clear hw3
      have HEQ1:Hid (_∧_∧_):=HEQ
      clear yf HEQ
      go_wp2
      exact bodyPost_ret (v:=.tuple #[.agg #[.string ⟨r.toArray⟩,.slice a3 m3 k3,.bool true],.bool false]) (results_im rfl _ _ (w.heap.size+2) 33 _ _ rfl HY.out.1 Tryz.underlying33 rfl (by kernel_rfl) _ rfl) rfl ⟨a3,m3,k3,by rw[HEQ1.out.1,HEQ1.out.2.2],by rw[HEQ1.out.2.1];exact HY.out.2.2,HY.out.2.1⟩
    | false =>
      have K3:=follows_any ps.length qs.length f l adA adB cp cp2 w3 hl hl2
      rw[hw3] at K3
      clear hw3
      cases hfo:followsB ps.length f l qs.length with
      | false =>
        have HEQ0:Hid (tb=false∧tp=ps∧td=false):=by
         obtain⟨h1,h2,h3⟩:=HE.out
         simp only[hfo,Bool.false_and,Bool.and_false] at h1
         rw[h1] at h2 h3
         simp only[Bool.false_eq_true,if_false] at h2 h3
         exact⟨h1,h2,h3⟩
        rw[hfo] at K3
        clear HE hfo
        go_wp2_with fail
        refine K3.mono ?_
        rintro e w4 ⟨rfl,b4⟩
        rw[←HW3.out] at b4
        have s4:=b4.size
        have B4:=B3.trans (b4.mono B3.size)
        have HZ4:Hid (_=_):=(b4.block (w.heap.size+2) (by omega)).trans HZ3.out
        have HSm4:Hid (_=_):=(b4.block bs (by omega)).trans HSm3.out
        have O4:=hidOwn (own_block O3.out (fun k hk=>b4.block k (O3.out.lt k hk).2))
        obtain⟨v0,v1,v2,_⟩:=im_cells HSm4.out
        clear b4 K3 p0 p1 p2 t0 t1 t2 x0 x1 x2 q0 q1 q2
        have HEQ:=HEQ0.out
        obtain⟨y0,y1,y2,yf⟩:=im_cells HZ4.out
        have yf0:=yf 0
        have yf1:=yf 1
        have yf2:=yf 2
        have HY:Hid (_∧_∧_):=im_store HZ4.out (by omega) B4 (O4.out.mono (base':=w.heap.size) (by omega)) HNE.out (.string ⟨r.toArray⟩) (.slice a3 m3 k3) (.bool false)
        have HEQ1:Hid (_∧_∧_):=HEQ
        clear yf HEQ
        go_wp2
        exact bodyPost_ret (v:=.tuple #[.agg #[.string ⟨r.toArray⟩,.slice a3 m3 k3,.bool false],.bool false]) (results_im rfl _ _ (w.heap.size+2) 33 _ _ rfl HY.out.1 Tryz.underlying33 rfl (by kernel_rfl) _ rfl) rfl ⟨a3,m3,k3,by rw[HEQ1.out.1,HEQ1.out.2.2],by rw[HEQ1.out.2.1];exact HY.out.2.2,HY.out.2.1⟩
      | true =>
        rw[hfo] at K3
        have h8:qs.length≤8:=by
         unfold followsB at hfo
         simp only[Bool.and_eq_true,decide_eq_true_eq] at hfo
         exact hfo.2.1
        have HFO:Hid (followsB ps.length f l qs.length=true):=hfo
        clear hfo
        go_wp2_with fail
        refine K3.mono ?_
        rintro e w4 ⟨rfl,b4⟩
        rw[←HW3.out] at b4
        have s4:=b4.size
        have B4:=B3.trans (b4.mono B3.size)
        have z4:=z3.trans (b4.mono (by omega))
        have HZ4:Hid (_=_):=(b4.block (w.heap.size+2) (by omega)).trans HZ3.out
        have HSm4:Hid (_=_):=(b4.block bs (by omega)).trans HSm3.out
        have HT4:Hid (_=_):=(b4.block w2.heap.size (by omega)).trans HT3.out
        have O4:=hidOwn (own_block O3.out (fun k hk=>b4.block k (O3.out.lt k hk).2))
        clear b4 K3 p0 p1 p2 t0 t1 t2 x0 x1 x2 q0 q1 q2
        obtain⟨p0,p1,p2,_⟩:=HC1.out w4 z4
        obtain⟨t0,t1,t2,_⟩:=im_cells HT4.out
        have K4:=behind_any adA adB cp cp2 ps qs f l w4 HXX.out.1 HXX.out.2.1 HXX.out.2.2.1 HXX.out.2.2.2 (by omega) (by omega) (HS.out w4 B4) (HS2.out w4 B4)
        have hal2:(ps ++ qs).length≤1048576:=by rw[List.length_append];omega
        obtain⟨al,hal⟩:∃ al,al=ps ++ qs:=⟨_,rfl⟩
        rw[←hal] at HE K4 HM hal2
        have HE1:=HE.out
        rw[HFO.out] at HE1
        simp only[Bool.not_false,Bool.true_and] at HE1
        have HE2:Hid _:=HE1
        clear HE HE1 hal
        go_wp2_with fail
        refine K4.mono ?_
        rintro e w5 ⟨a5,m5,k5,rfl,o5,b5⟩
        obtain⟨rfl,_,i5⟩:=isPairs_own o5
        have s5:=b5.size
        have B5:=B4.trans (b5.mono B4.size)
        have z5:=z4.trans (b5.mono (by omega))
        have HZ5:Hid (_=_):=(b5.block (w.heap.size+2) (by omega)).trans HZ4.out
        have HSm5:Hid (_=_):=(b5.block bs (by omega)).trans HSm4.out
        have O5:=hidOwn (own_block O4.out (fun k hk=>b5.block k (O4.out.lt k hk).2))
        have P5:=hidOwn o5
        have HI5:Hid (∀ W,Below w5.heap.size w5 W→IsPairs W a5 al):=fun W h=>i5.later h
        have HNA:Hid ((Value.slice a5 al.length k5).ownBlock≠some (w.heap.size+2)):=fun h=>by have:=(P5.out.lt _ h).1;omega
        have K5:=impl_pairsOk a5 k5 al w5 hal2 HM.out i5
        clear o5 b5 K4 p0 p1 p2 t0 t1 t2 i5
        cases hpk:pairsOkL al with
        | false =>
          have HEQ0:Hid (tb=false∧tp=ps∧td=false):=by
           obtain⟨h1,h2,h3⟩:=HE2.out
           simp only[hpk,Bool.false_and] at h1
           rw[h1] at h2 h3
           simp only[Bool.false_eq_true,if_false] at h2 h3
           exact⟨h1,h2,h3⟩
          rw[hpk] at K5
          clear hpk HE2
          go_wp2_with fail
          refine K5.mono ?_
          rintro e w6 ⟨rfl,b6⟩
          have s6:=b6.size
          have B6:=B5.trans (b6.mono B5.size)
          have z6:=z5.trans (b6.mono (by omega))
          have HZ6:Hid (_=_):=(b6.block (w.heap.size+2) (by omega)).trans HZ5.out
          have HSm6:Hid (_=_):=(b6.block bs (by omega)).trans HSm5.out
          have O6:=hidOwn (own_block O5.out (fun k hk=>b6.block k (O5.out.lt k hk).2))
          obtain⟨v0,v1,v2,_⟩:=im_cells HSm6.out
          clear b6 K5
          have HEQ:=HEQ0.out
          obtain⟨y0,y1,y2,yf⟩:=im_cells HZ6.out
          have yf0:=yf 0
          have yf1:=yf 1
          have yf2:=yf 2
          have HY:Hid (_∧_∧_):=im_store HZ6.out (by omega) B6 (O6.out.mono (base':=w.heap.size) (by omega)) HNE.out (.string ⟨r.toArray⟩) (.slice a3 m3 k3) (.bool false)
          have HEQ1:Hid (_∧_∧_):=HEQ
          clear yf HEQ
          go_wp2
          exact bodyPost_ret (v:=.tuple #[.agg #[.string ⟨r.toArray⟩,.slice a3 m3 k3,.bool false],.bool false]) (results_im rfl _ _ (w.heap.size+2) 33 _ _ rfl HY.out.1 Tryz.underlying33 rfl (by kernel_rfl) _ rfl) rfl ⟨a3,m3,k3,by rw[HEQ1.out.1,HEQ1.out.2.2],by rw[HEQ1.out.2.1];exact HY.out.2.2,HY.out.2.1⟩
        | true =>
          rw[hpk] at K5
          rw[hpk] at HE2
          go_wp2_with fail
          refine K5.mono ?_
          rintro e w6 ⟨rfl,b6⟩
          have s6:=b6.size
          have B6:=B5.trans (b6.mono B5.size)
          have z6:=z5.trans (b6.mono (by omega))
          have HZ6:Hid (_=_):=(b6.block (w.heap.size+2) (by omega)).trans HZ5.out
          have HSm6:Hid (_=_):=(b6.block bs (by omega)).trans HSm5.out
          have O6:=hidOwn (own_block O5.out (fun k hk=>b6.block k (O5.out.lt k hk).2))
          have P6:=hidOwn (own_block P5.out (fun k hk=>b6.block k (P5.out.lt k hk).2))
          have K6:=impl_areOfRoot a5 k5 al r w6 hal2 HM.out (HI5.out w6 b6) (HT.out w6 B6)
          clear b6 K5 hpk
          obtain⟨p0,p1,p2,_⟩:=HC1.out w6 z6
          obtain⟨q0,q1,q2,_⟩:=HC2.out w6 z6
          cases l with
          | false =>
            have HEQ0:Hid (tb=true∧tp=al∧td=false):=by
             obtain⟨h1,h2,h3⟩:=HE2.out
             simp only[Bool.not_false,Bool.true_or,Bool.and_true,Bool.true_and] at h1
             rw[h1] at h2 h3
             simp only[if_true] at h2 h3
             exact⟨h1,h2,h3⟩
            clear HE2 K6
            obtain⟨y0,y1,y2,yf⟩:=im_cells HZ6.out
            have yf0:=yf 0
            have yf1:=yf 1
            have yf2:=yf 2
            have HY:Hid (_∧_∧_):=im_store HZ6.out (by omega) B6 (P6.out.mono (base':=w.heap.size) (by omega)) HNA.out (.string ⟨r.toArray⟩) (.slice a5 al.length k5) (.bool false)
            clear yf
            go_wp2
            exact bodyPost_ret (v:=.tuple #[.agg #[.string ⟨r.toArray⟩,.slice a5 al.length k5,.bool false],.bool true]) (results_im rfl _ _ (w.heap.size+2) 33 _ _ rfl HY.out.1 Tryz.underlying33 rfl (by kernel_rfl) _ rfl) rfl ⟨a5,al.length,k5,by rw[HEQ0.out.1,HEQ0.out.2.2],by rw[HEQ0.out.2.1];exact HY.out.2.2,HY.out.2.1⟩
          | true =>
            cases hrk:(rootOk al && decide (rootR al=r)) with
            | false =>
              have HEQ0:Hid (tb=false∧tp=ps∧td=false):=by
               obtain⟨h1,h2,h3⟩:=HE2.out
               simp only[Bool.not_true,Bool.false_or,Bool.and_true,Bool.true_and,hrk] at h1
               rw[h1] at h2 h3
               simp only[Bool.false_eq_true,if_false] at h2 h3
               exact⟨h1,h2,h3⟩
              rw[hrk] at K6
              clear hrk HE2
              go_wp2_with fail
              refine K6.mono ?_
              rintro e w7 ⟨rfl,b7⟩
              have s7:=b7.size
              have B7:=B6.trans (b7.mono B6.size)
              have z7:=z6.trans (b7.mono (by omega))
              have HZ7:Hid (_=_):=(b7.block (w.heap.size+2) (by omega)).trans HZ6.out
              have HSm7:Hid (_=_):=(b7.block bs (by omega)).trans HSm6.out
              have O7:=hidOwn (own_block O6.out (fun k hk=>b7.block k (O6.out.lt k hk).2))
              obtain⟨v0,v1,v2,_⟩:=im_cells HSm7.out
              clear b7 K6 p0 p1 p2 q0 q1 q2
              have HEQ:=HEQ0.out
              obtain⟨y0,y1,y2,yf⟩:=im_cells HZ7.out
              have yf0:=yf 0
              have yf1:=yf 1
              have yf2:=yf 2
              have HY:Hid (_∧_∧_):=im_store HZ7.out (by omega) B7 (O7.out.mono (base':=w.heap.size) (by omega)) HNE.out (.string ⟨r.toArray⟩) (.slice a3 m3 k3) (.bool false)
              have HEQ1:Hid (_∧_∧_):=HEQ
              clear yf HEQ
              go_wp2
              exact bodyPost_ret (v:=.tuple #[.agg #[.string ⟨r.toArray⟩,.slice a3 m3 k3,.bool false],.bool false]) (results_im rfl _ _ (w.heap.size+2) 33 _ _ rfl HY.out.1 Tryz.underlying33 rfl (by kernel_rfl) _ rfl) rfl ⟨a3,m3,k3,by rw[HEQ1.out.1,HEQ1.out.2.2],by rw[HEQ1.out.2.1];exact HY.out.2.2,HY.out.2.1⟩
            | true =>
              have HEQ0:Hid (tb=true∧tp=al∧td=true):=by
               obtain⟨h1,h2,h3⟩:=HE2.out
               simp only[Bool.not_true,Bool.false_or,Bool.and_true,Bool.true_and,hrk] at h1
               rw[h1] at h2 h3
               simp only[if_true] at h2 h3
               exact⟨h1,h2,h3⟩
              rw[hrk] at K6
              clear hrk HE2
              go_wp2_with fail
              refine K6.mono ?_
              rintro e w7 ⟨rfl,b7⟩
              have s7:=b7.size
              have B7:=B6.trans (b7.mono B6.size)
              have z7:=z6.trans (b7.mono (by omega))
              have HZ7:Hid (_=_):=(b7.block (w.heap.size+2) (by omega)).trans HZ6.out
              have HSm7:Hid (_=_):=(b7.block bs (by omega)).trans HSm6.out
              have O7:=hidOwn (own_block O6.out (fun k hk=>b7.block k (O6.out.lt k hk).2))
              have P7:=hidOwn (own_block P6.out (fun k hk=>b7.block k (P6.out.lt k hk).2))
              clear b7 K6 p0 p1 p2 q0 q1 q2
              obtain⟨p0,p1,p2,_⟩:=HC1.out w7 z7
              obtain⟨q0,q1,q2,_⟩:=HC2.out w7 z7
              obtain⟨y0,y1,y2,yf⟩:=im_cells HZ7.out
              have yf0:=yf 0
              have yf1:=yf 1
              have yf2:=yf 2
              have HY:Hid (_∧_∧_):=im_store HZ7.out (by omega) B7 (P7.out.mono (base':=w.heap.size) (by omega)) HNA.out (.string ⟨r.toArray⟩) (.slice a5 al.length k5) (.bool true)
              clear yf
              go_wp2
              exact bodyPost_ret (v:=.tuple #[.agg #[.string ⟨r.toArray⟩,.slice a5 al.length k5,.bool true],.bool true]) (results_im rfl _ _ (w.heap.size+2) 33 _ _ rfl HY.out.1 Tryz.underlying33 rfl (by kernel_rfl) _ rfl) rfl ⟨a5,al.length,k5,by rw[HEQ0.out.1,HEQ0.out.2.2],by rw[HEQ0.out.2.1];exact HY.out.2.2,HY.out.2.1⟩
set_option linter.unusedSimpArgs false
set_option maxHeartbeats 1000000 in
set_option maxRecDepth 100000 in
theorem spec_copy (adA:Option Addr) (cap:Nat) (qs:List PairL) (w:World) (hca:adA=none→cap=0) (hl:qs.length≤1000) (hs:IsPairs w adA qs) :
 Calls Tryz.prog 26 #[.slice adA qs.length cap] w fun e w'=>∃ (a:Option Addr) (m c:Nat),e=.returned (.slice a m c)∧w'.ownsRow w.heap.size 56 2 (.slice a m c) qs.length (pcells qs)∧Below w.heap.size w w':=by
 obtain⟨i0,hi0,hz0,hz1,hz2⟩:=info_parts infoPair
 have B0:Below w.heap.size w (w.alloc (.cells #[] 56)):=(Below.refl _ _).alloc (Nat.le_refl _) _
 have HF:Hid (IsPairs (w.alloc (.cells #[] 56)) adA qs):=hs.later B0
 have o0:=World.ownsRow_lit (e:=56) (size:=2) w #[] 0 (base:=w.heap.size) (Nat.le_refl _) (Nat.zero_le _) rfl
 have HO0:=hidOwn o0
 have HCA:Hid (adA=none→cap=0):=hca
 clear hs o0 hca
 go_enter Tryz.func26,Tryz.ntmps26
 go_wp2_with (at_builtin;refine wpList_append_prs rfl _ _ 24 rfl w.heap.size 56 i0 (.agg #[.string ⟨#[]⟩,.string ⟨#[]⟩]) 32 Tryz.underlying24 hi0 hz0 hz1 hz2 rfl (.slice (some ⟨w.heap.size,0,none⟩) 0 0) 0 _ rfl HO0.out adA qs qs.length cap rfl rfl HCA.out HF.out (by unfold maxLen;omega) (by omega) (by simp <;> omega) ?_;intro v3 w3 hown3 hgrow3;obtain⟨a3,m3,c3,rfl⟩:=own_slice2 hown3)
 have B3:Below w.heap.size w w3:=B0.grown hgrow3 (by simp) (fun k hk=>by simp[Value.ownBlock] at hk;omega)
 have HO3:Hid (w3.ownsRow w.heap.size 56 2 (.slice a3 m3 c3) qs.length (pcells qs)):=by rw[Hid];simpa using hown3
 clear hown3 hgrow3
 go_wp2
 go_ret
 exact⟨a3,m3,c3,rfl,HO3.out,B3⟩
theorem step_append_nothing {P:Program} {ops:Array Oper} {o:Oper} {a:Act} {w:World} {K:Act→World→Prop} {Q:Exit→Act→World→Prop} {E:Prop}
 (hg:o.guard=none) (s x:Operand) (t:TypeId) (hop:o.op=Op.call { callee:=Callee.builtin Builtin.append,args:=#[s,x],argTypes:=#[t,t] })
 (v y:Value) (hs:a.eval s=v) (hx:a.eval x=y) (hrun:∀ ty,(Builtin.append_ #[t,t] ty #[v,y]).run P w=.ok v w)
 (hK:K (a.put o.dst v) w) :
 if Region.wanted o (yielded ops a.tmps)=true then Oper.wp P o a w K Q else E:=by
 have hw:Region.wanted o (yielded ops a.tmps)=true:=by simp[Region.wanted,hg]
 rw[if_pos hw]
 unfold Oper.wp
 simp[execOp,hop,resolve,invoke,builtin,hs,hx,hrun,Result.andThen]
 exact hK
theorem own_le {w:World} {base e size n k c:Nat} {a:Option Addr} {xs:List Value} (h:w.ownsRow base e size (.slice a k c) n xs):k≤c:=by
 rcases h.2 with ⟨e1,h0⟩ | ⟨g,cap,cur,e1,hb,hg,h1,_⟩
 · cases e1;exact Nat.le_refl _
 · cases e1;exact h1
set_option maxRecDepth 100000 in
set_option maxHeartbeats 2000000 in
theorem spec_took (r : List UInt8) (adA adB : Option Addr) (cp cp2 : Nat) (ps qs : List PairL) (n m : Nat) (haa : adA = none ∨ ∃ b off, adA = some ⟨b, off, none⟩) (hca : adA = none → cp = 0) (haa2 : adB = none ∨ ∃ b off, adB = some ⟨b, off, none⟩) (hca2 : adB = none → cp2 = 0) (HN : Hid (n = ps.length)) (HM0 : Hid (m = qs.length)) (d f l : Bool) (w : World) (hr : r.length ≤ 1048576) (hl : n ≤ 1048576) (hm : ∀ p ∈ ps, p.1.length ≤ 1048576 ∧ p.2.length ≤ 1048576) (hl2 : m ≤ 1048576) (hm2 : ∀ p ∈ qs, p.1.length ≤ 1048576 ∧ p.2.length ≤ 1048576) (hs : IsPairs w adA ps) (hs2 : IsPairs w adB qs) :
 Calls Tryz.prog 36 #[.agg #[.string ⟨r.toArray⟩,.slice adA n cp,.bool d],.agg #[.bool f,.bool l,.slice adB m cp2]] w fun e w'=>∃ (a:Option Addr) (m c:Nat),e=.returned (.tuple #[.agg #[.string ⟨(tookRoot r ps d).toArray⟩,.slice a m c,.bool (tookD r ps d f l qs)],.bool (tookB r ps d f l qs)])∧w'.ownsRow w.heap.size 56 2 (.slice a m c) (tookPs r ps d f l qs).length (pcells (tookPs r ps d f l qs))∧Below w.heap.size w w':=by
 obtain⟨wz,hwz⟩:∃ wz,wz=(w.alloc (.cells #[.string ⟨r.toArray⟩,.slice adA n cp,.bool d] 33)).alloc (.cells #[.bool f,.bool l,.slice adB m cp2] 38):=⟨_,rfl⟩
 obtain⟨w0,hw0⟩:∃ w0,w0=wz.alloc (.cells #[.string ⟨#[]⟩,.slice none 0 0,.bool false] 33):=⟨_,rfl⟩
 have hsz:wz.heap.size=w.heap.size+2:=by rw[hwz];simp
 have hsz0:w0.heap.size=w.heap.size+3:=by rw[hw0];simp[hsz]
 have Bz:Below w.heap.size w wz:=by rw[hwz];exact ((Below.refl _ _).alloc (Nat.le_refl _) _).alloc (by simp) _
 have z0:Below (w.heap.size+2) wz w0:=by rw[hw0];exact (Below.refl _ _).alloc (by omega) _
 have B0:Below w.heap.size w w0:=Bz.trans (z0.mono (by omega))
 obtain⟨g1,g2⟩:=two_heap w (.cells #[.string ⟨r.toArray⟩,.slice adA n cp,.bool d] 33) (.cells #[.bool f,.bool l,.slice adB m cp2] 38)
 rw[←hwz] at g1 g2
 have HC1:Hid (∀ W,Below (w.heap.size+2) wz W→_):=fun W h=>im_cells ((h.block w.heap.size (by omega)).trans g1)
 have HC2:Hid (∀ W,Below (w.heap.size+2) wz W→_):=fun W h=>im_cells ((h.block (w.heap.size+1) (by omega)).trans g2)
 have K1:=spec_importOk r adA cp ps d w0 hr (HN.out ▸ hl) hm (hs.later B0)
 rw[←HN.out] at K1
 have HS:Hid (∀ W,Below w.heap.size w W→IsPairs W adA ps):=fun W hW=>hs.later hW
 have HS2:Hid (∀ W,Below w.heap.size w W→IsPairs W adB qs):=fun W hW=>hs2.later hW
 have HM:Hid (∀ p∈ps ++ qs,p.1.length≤1048576∧p.2.length≤1048576):=fun p hp=>(List.mem_append.1 hp).elim (hm p) (hm2 p)
 have HP:Hid (importB r ps d=true→n≤60):=fun h=>by
  unfold importB at h
  simp only[Bool.and_eq_true] at h
  rw[HN.out];exact (pairsOk_of ps h.2.1).1
 have HZ0:Hid (w0.heap[w.heap.size+2]? = some (.cells #[.string ⟨#[]⟩,.slice none 0 0,.bool false] 33 (0,0))):=by rw[Hid,hw0,←hsz];exact heap_alloc_new wz _
 have HW0:Hid (w0=_):=hw0.trans (by rw[hwz])
 rw[HW0.out] at K1
 have HXX:Hid ((adA=none∨∃ b off,adA=some ⟨b,off,none⟩)∧(adA=none→cp=0)∧(adB=none∨∃ b off,adB=some ⟨b,off,none⟩)∧(adB=none→cp2=0)):=⟨haa,hca,haa2,hca2⟩
 clear hs hs2 hm hm2 g1 g2 hw0 hwz haa hca haa2 hca2
 cases hi:importB r ps d with
 | false =>
   have e1:tookB r ps d f l qs=false:=by simp[tookB,hi]
   have e2:tookPs r ps d f l qs=[]:=by simp[tookPs,hi]
   have e3:tookRoot r ps d=[]:=by simp[tookRoot,hi]
   have e4:tookD r ps d f l qs=false:=by simp[tookD,e1,hi]
   rw[e1,e2,e3,e4]
   rw[hi] at K1
   clear e1 e2 e3 e4 hi
   go_enter Tryz.func36,Tryz.ntmps36
   go_wp2_with fail
   refine K1.mono ?_
   rintro e w1 ⟨rfl,b1⟩
   rw[←HW0.out] at b1
   have B1:=B0.trans (b1.mono B0.size)
   obtain⟨_,_,_,z4⟩:=im_cells ((b1.block (w.heap.size+2) (by omega)).trans HZ0.out)
   have y1:=im_store ((b1.block (w.heap.size+2) (by omega)).trans HZ0.out) (by omega) B1 (World.ownsRow_nil w1 w.heap.size 56 2) (by simp[Value.ownBlock]) (.string ⟨#[]⟩) (.slice none 0 0) (.bool false)
   have HY:Hid (_∧_∧_):=y1
   have z40:=z4 0
   have z41:=z4 1
   have z42:=z4 2
   clear y1 z4
   go_wp2
   exact bodyPost_ret (v:=.tuple #[.agg #[.string ⟨#[]⟩,.slice none 0 0,.bool false],.bool false]) (results_im rfl _ _ (w.heap.size+2) 33 _ _ rfl HY.out.1 Tryz.underlying33 rfl (by kernel_rfl) _ rfl) rfl ⟨none,0,0,rfl,HY.out.2.2,HY.out.2.1⟩
 | true =>
   have hp60:=HP.out hi
   have e1:tookRoot r ps d=r:=by simp[tookRoot,hi]
   have HE:Hid (tookB r ps d f l qs=(!d && (followsB n f l m && (pairsOkL (ps ++ qs) && (!l || (rootOk (ps ++ qs) && decide (rootR (ps ++ qs)=r))))))∧tookPs r ps d f l qs=(if tookB r ps d f l qs=true then ps ++ qs else ps)∧tookD r ps d f l qs=(if tookB r ps d f l qs=true then l else d)):=by
    refine⟨by rw[HN.out,HM0.out];simp[tookB,hi],by simp[tookPs,hi],by simp[tookD,hi]⟩
   rw[e1]
   obtain⟨tb,htb⟩:∃ x,x=tookB r ps d f l qs:=⟨_,rfl⟩
   obtain⟨tp,htp⟩:∃ x,x=tookPs r ps d f l qs:=⟨_,rfl⟩
   obtain⟨td,htd⟩:∃ x,x=tookD r ps d f l qs:=⟨_,rfl⟩
   rw[←htb,←htp,←htd] at HE ⊢
   rw[hi] at K1
   have HSZ:Hid (w0.heap.size=w.heap.size+3):=hsz0
   clear e1 hi htb htp htd hsz0
   go_enter Tryz.func36,Tryz.ntmps36
   go_wp2_with fail
   refine K1.mono ?_
   rintro e w1 ⟨rfl,b1⟩
   rw[←HW0.out] at b1
   have B1:=B0.trans (b1.mono B0.size)
   have z1:=z0.trans (b1.mono (by rw[HSZ.out];omega))
   have s1:=b1.size
   rw[HSZ.out] at s1
   have HZ1:Hid (_=_):=(b1.block (w.heap.size+2) (by rw[HSZ.out];omega)).trans HZ0.out
   obtain⟨p0',p1',p2',_⟩:=HC1.out w1 z1
   have K2:=spec_copy adA cp ps w1.drew HXX.out.2.1 (by rw[←HN.out];omega) (HS.out _ B1.drew)
   have K2A:=spec_copy adA cp ps (w1.alloc (.cells #[.string ⟨#[]⟩,.slice none 0 0,.bool false] 33)).drew HXX.out.2.1 (by rw[←HN.out];omega) (HS.out _ (B1.alloc B1.size _).drew)
   rw[←HN.out] at K2 K2A
   clear K1 b1
   go_wp2_with fail
   go_cut [6] from 13 (fun v wx=>∃ (bs:Nat) (a:Option Addr) (m c:Nat),v=.pointer (some ⟨bs,0,none⟩)∧Hid (wx.heap[bs]? = some (.cells #[.string ⟨r.toArray⟩,.slice a m c,.bool d] 33 (0,0)))∧Hid (w1.heap.size≤bs)∧Hid (Below w1.heap.size w1 wx)∧Hid (wx.ownsRow w1.heap.size 56 2 (.slice a m c) n (pcells ps))∧Hid ((Value.slice a m c).ownBlock≠some bs))
   case first =>
    go_region_held3 (fun w'=>w'.cell? ⟨w.heap.size,0,none⟩=some (.string ⟨r.toArray⟩)∧w'.cell? ⟨w.heap.size,1,none⟩=some (.slice adA n cp)∧w'.cell? ⟨w.heap.size,2,none⟩=some (.bool d))
     (first | (exact⟨by assumption,by assumption,by assumption⟩) | (with_reducible exact⟨(im_set_cell (by simp;omega)).trans (by assumption),(im_set_cell (by simp;omega)).trans (by assumption),(im_set_cell (by simp;omega)).trans (by assumption)⟩) | go_keep)
     (first
      | (go_at_call 26
         with_reducible refine K2A.mono ?_
         rintro e w5 ⟨a5,m5,k5,rfl,o5,b5'⟩
         obtain⟨s5,b5,hzA⟩:=im_alloc_drew b5'
         have q5a:=(b5.cell (p:=⟨w.heap.size,0,none⟩) (by simp;omega)).trans p0'
         have q5b:=(b5.cell (p:=⟨w.heap.size,1,none⟩) (by simp;omega)).trans p1'
         have q5c:=(b5.cell (p:=⟨w.heap.size,2,none⟩) (by simp;omega)).trans p2'
         have HN:Hid (Below w1.heap.size w1 w5∧w5.heap[w1.heap.size]? = some (.cells #[.string ⟨#[]⟩,.slice none 0 0,.bool false] 33)∧(Value.slice a5 m5 k5).ownBlock≠some w1.heap.size):=⟨b5,hzA,fun h=>by have:=(o5.lt _ h).1;have e:(w1.alloc (.cells #[.string ⟨#[]⟩,.slice none 0 0,.bool false] 33)).drew.heap.size=w1.heap.size+1:=(by show (w1.alloc (.cells #[.string ⟨#[]⟩,.slice none 0 0,.bool false] 33)).heap.size=_;simp);omega⟩
         have O5:=hidOwn o5
         obtain⟨y0,y1,y2,yf⟩:=im_cells HN.out.2.1
         have yf0:=yf 0
         have yf1:=yf 1
         have yf2:=yf 2
         clear o5 b5 b5' yf)
      | (go_at_call 26
         with_reducible refine K2.mono ?_
         rintro e w5 ⟨a5,m5,k5,rfl,o5,b5'⟩
         have b5:Below w1.heap.size w1 w5:=⟨b5'.os,b5'.tape,b5'.output,b5'.size,b5'.block⟩
         have q5a:=(b5.cell (p:=⟨w.heap.size,0,none⟩) (by simp;omega)).trans p0'
         have q5b:=(b5.cell (p:=⟨w.heap.size,1,none⟩) (by simp;omega)).trans p1'
         have q5c:=(b5.cell (p:=⟨w.heap.size,2,none⟩) (by simp;omega)).trans p2'
         have HC:Hid (Below w1.heap.size w1 w5∧(Value.slice a5 m5 k5).ownBlock≠some w5.heap.size):=⟨b5,fun h=>by have:=(o5.lt _ h).2;omega⟩
         have O5:=hidOwn o5
         clear o5 b5 b5'))
    all_goals go_wp2_with fail
    · go_meet
      case rel =>
       have hc:=HC.out
       exact⟨w5.heap.size,a5,m5,k5,rfl,heap_alloc_new w5 _,hc.1.size,hc.1.alloc hc.1.size _,(O5.out.alloc _).mono (Nat.le_refl _),hc.2⟩
    · go_meet
      case rel =>
       have hn:=HN.out
       have ts:=im_store hn.2.1 (Nat.le_refl _) hn.1 O5.out hn.2.2 (.string ⟨r.toArray⟩) (.slice a5 m5 k5) (.bool d)
       exact⟨w1.heap.size,a5,m5,k5,rfl,ts.1,Nat.le_refl _,ts.2.1,ts.2.2.mono (by show _≤(w1.alloc _).heap.size;simp),hn.2.2⟩
   case rest =>
    obtain⟨bs,a3,m3,k3,rfl,HSm,HB,HW,HO,HK⟩:=hcut
    obtain⟨w2,rfl⟩:∃ W,W=wc:=⟨_,rfl⟩
    have HOp:Hid (w2.ownsRow w1.heap.size 56 2 (.slice a3 m3 k3) ps.length (pcells ps)):=by rw[Hid,←HN.out];exact HO.out
    have b2':=HW.out
    have s2:=b2'.size
    have B2:=B1.trans (b2'.mono B1.size)
    have z2:=z1.trans (b2'.mono (by omega))
    have HZ2:Hid (_=_):=(b2'.block (w.heap.size+2) (by omega)).trans HZ1.out
    have hbs:=HB.out
    have lbs:=lt_of_block HSm.out
    obtain⟨q0,q1,q2,_⟩:=HC2.out w2 z2
    clear K2 K2A b2' p0' p1' p2'
    obtain⟨p0,p1,p2,_⟩:=HC1.out w2 z2
    obtain⟨x0,x1,x2,_⟩:=im_cells HSm.out
    have HNE:Hid ((Value.slice a3 m3 k3).ownBlock≠some (w.heap.size+2)):=fun h=>by have:=(HO.out.lt _ h).1;omega
    cases d with
    | true =>
      have HEQ0:Hid (tb=false∧tp=ps∧td=true):=by
       obtain⟨h1,h2,h3⟩:=HE.out
       simp only[Bool.not_true,Bool.false_and] at h1
       rw[h1] at h2 h3
       simp only[Bool.false_eq_true,if_false] at h2 h3
       exact⟨h1,h2,h3⟩
      clear HE
      have HEQ:=HEQ0.out
      obtain⟨y0,y1,y2,yf⟩:=im_cells HZ2.out
      have yf0:=yf 0
      have yf1:=yf 1
      have yf2:=yf 2
      have HY:Hid (_∧_∧_):=im_store HZ2.out (by omega) B2 (HOp.out.mono (base':=w.heap.size) (by omega)) HNE.out (.string ⟨r.toArray⟩) (.slice a3 m3 k3) (.bool true)
      have HEQ1:Hid (_∧_∧_):=HEQ
      clear yf HEQ
      go_wp2
      exact bodyPost_ret (v:=.tuple #[.agg #[.string ⟨r.toArray⟩,.slice a3 m3 k3,.bool true],.bool false]) (results_im rfl _ _ (w.heap.size+2) 33 _ _ rfl HY.out.1 Tryz.underlying33 rfl (by kernel_rfl) _ rfl) rfl ⟨a3,m3,k3,by rw[HEQ1.out.1,HEQ1.out.2.2],by rw[HEQ1.out.2.1];exact HY.out.2.2,HY.out.2.1⟩
    | false =>
      have hcs:(followsB n f l m=false∧(((f=true∧Hid (0<n)∧((n:Int) == 0)=false)∨(f=false∧n=0))∨((f=true∧n=0)∨(f=false∧Hid (0<n)∧((n:Int) == 0)=false))∧(Hid (8<m)∧(8:Int)<(m:Int)∨(m=0∧(f=false∨(f=true∧l=false))))))∨(followsB n f l m=true∧((f=true∧n=0)∨(f=false∧Hid (0<n)∧((n:Int) == 0)=false))∧(Hid (0<m)∧((m:Int) == 0)=false∧(8<(m:Int))=False∨(m=0∧f=true∧l=true))):=by
       have hn:n=0∨(Hid (0<n)∧((n:Int) == 0)=false):=by
        rcases Nat.eq_zero_or_pos n with h | h
        · exact .inl h
        · exact .inr ⟨h,by simp;omega⟩
       have hm:m=0∨(Hid (0<m)∧((m:Int) == 0)=false∧(8<(m:Int))=False)∨(Hid (8<m)∧(8:Int)<(m:Int)):=by
        rcases Nat.eq_zero_or_pos m with h | h
        · exact .inl h
        · by_cases h8:m≤8
          · exact .inr (.inl ⟨h,by simp;omega,eq_false (by omega)⟩)
          · exact .inr (.inr ⟨by rw[Hid];omega,by omega⟩)
       have e1:∀ n,0<n→decide (n=0)=false:=fun n h=>decide_eq_false (by omega)
       have e2:8<m→decide (m≤8)=false:=fun h=>decide_eq_false (by omega)
       have e3:(8<(m:Int))=False→decide (m≤8)=true:=fun h=>decide_eq_true (by have:=of_eq_false h;omega)
       unfold followsB
       rcases hn with rfl | ⟨hn0,hn⟩ <;> rcases hm with rfl | ⟨hm0,hm,hm8⟩ | ⟨hm0,hm⟩ <;> cases f <;> cases l
       all_goals first
        | exact .inl ⟨rfl,.inl (.inr ⟨rfl,rfl⟩)⟩
        | exact .inl ⟨by first | rfl | simp[e1 n hn0.out] | simp,.inl (.inl ⟨rfl,hn0,hn⟩)⟩
        | exact .inl ⟨by first | rfl | simp[e1 n hn0.out] | simp,.inl (.inr ⟨rfl,rfl⟩)⟩
        | exact .inl ⟨by first | rfl | (simp[e2 hm0.out];done),.inr ⟨.inl ⟨rfl,rfl⟩,.inl ⟨hm0,hm⟩⟩⟩
        | exact .inl ⟨by first | rfl | (simp[e2 hm0.out];done),.inr ⟨.inr ⟨rfl,hn0,hn⟩,.inl ⟨hm0,hm⟩⟩⟩
        | exact .inl ⟨by first | rfl | (simp[e1 n hn0.out];done),.inr ⟨.inr ⟨rfl,hn0,hn⟩,.inr ⟨rfl,.inl rfl⟩⟩⟩
        | exact .inl ⟨rfl,.inr ⟨.inl ⟨rfl,rfl⟩,.inr ⟨rfl,.inr ⟨rfl,rfl⟩⟩⟩⟩
        | exact .inr ⟨by first | rfl | (simp[e3 hm8,hm0.out];done),.inl ⟨rfl,rfl⟩,.inl ⟨hm0,hm,hm8⟩⟩
        | exact .inr ⟨by first | rfl | (simp[e1 n hn0.out,e3 hm8,hm0.out];done),.inr ⟨rfl,hn0,hn⟩,.inl ⟨hm0,hm,hm8⟩⟩
        | exact .inr ⟨rfl,.inl ⟨rfl,rfl⟩,.inr ⟨rfl,rfl,rfl⟩⟩
      rcases hcs with ⟨hfo,hcs⟩ | ⟨hfo,hn,hm⟩
      · have HEQ0:Hid (tb=false∧tp=ps∧td=false):=by
         obtain⟨h1,h2,h3⟩:=HE.out
         simp only[hfo,Bool.false_and,Bool.and_false] at h1
         rw[h1] at h2 h3
         simp only[Bool.false_eq_true,if_false] at h2 h3
         exact⟨h1,h2,h3⟩
        clear HE hfo
        rcases hcs with (⟨rfl,hn0,hn⟩ | ⟨rfl,rfl⟩) | ⟨⟨rfl,rfl⟩ | ⟨rfl,hn0,hn⟩,⟨hm0,hm⟩ | ⟨rfl,hm | ⟨hm,rfl⟩⟩⟩
        all_goals try (exfalso;cases hm;done)
        all_goals
         have HEQ:=HEQ0.out
         obtain⟨y0,y1,y2,yf⟩:=im_cells HZ2.out
         have yf0:=yf 0
         have yf1:=yf 1
         have yf2:=yf 2
         have HY:Hid (_∧_∧_):=im_store HZ2.out (by omega) B2 (HOp.out.mono (base':=w.heap.size) (by omega)) HNE.out (.string ⟨r.toArray⟩) (.slice a3 m3 k3) (.bool false)
         have HEQ1:Hid (_∧_∧_):=HEQ
         clear yf HEQ
         go_wp2
         exact bodyPost_ret (v:=.tuple #[.agg #[.string ⟨r.toArray⟩,.slice a3 m3 k3,.bool false],.bool false]) (results_im rfl _ _ (w.heap.size+2) 33 _ _ rfl HY.out.1 Tryz.underlying33 rfl (by kernel_rfl) _ rfl) rfl ⟨a3,m3,k3,by rw[HEQ1.out.1,HEQ1.out.2.2],by rw[HEQ1.out.2.1];exact HY.out.2.2,HY.out.2.1⟩
      · have h8 : m ≤ 8 := by
         unfold followsB at hfo
         simp only[Bool.and_eq_true,decide_eq_true_eq] at hfo
         exact hfo.2.1
        have HFO:Hid (followsB n f l m=true):=hfo
        clear hfo
        have K5:=spec_copy adA cp ps w2.drew HXX.out.2.1 (by rw[←HN.out];omega) (HS.out _ B2.drew)
        rw[←HN.out] at K5
        obtain⟨i0,hi0,hz0,hz1,hz2⟩:=info_parts infoPair
        rcases hn with ⟨rfl,rfl⟩ | ⟨rfl,hn0,hn⟩
        · rcases hm with ⟨hm0, hm, hm8⟩ | ⟨rfl, _, rfl⟩
          · skip
            obtain⟨b2,off2,HX2⟩:∃ b2 off2,Hid (adB=some ⟨b2,off2,none⟩):=by
             rcases HS2.out w (Below.refl _ _) with h | ⟨b9,o9,h,_⟩
             · exfalso;have h1:=HM0.out;have h2:=hm0.out;rw[h] at h1;simp at h1;omega
             · exact⟨b9,o9,h⟩
            go_wp2_with fail
            go_cut [7] from 55 (fun v wx=>∃ (a:Option Addr) (k c:Nat),v=.slice a k c∧Hid (wx.ownsRow w2.heap.size 56 2 (.slice a k c) (ps ++ qs).length (pcells (ps ++ qs)))∧Hid (Below w2.heap.size w2 wx))
            case first =>
             go_region_held3 (fun w'=>w'.cell? ⟨w.heap.size,1,none⟩=some (.slice adA 0 cp)∧w'.cell? ⟨w.heap.size+1,2,none⟩=some (.slice adB m cp2))
              (first | with_reducible exact S6.out | with_reducible exact S5.out | exact⟨p1,q2⟩)
              (first
               | (refine step_append_lies _ rfl (.tmp 57) (.tmp 59) 24 rfl w2.heap.size 56 i0 (.agg #[.string ⟨#[]⟩, .string ⟨#[]⟩]) 2 32 Tryz.underlying24 hi0 hz0 hz1 hz2 rfl (by decide) (.slice a5 m5 k5) 0 (pcells ps) (by simp [Act.eval]) O5.out ⟨b2, off2, none⟩ m cp2 (pcells qs) (by simp [Act.eval]; exact HX2.out) L5.out F5.out (pcells_one qs) hm0.out (by unfold maxLen; omega) (by omega) Z5.out _ rfl ?_
                  intro g6 c6 w6 hown6 hgrow6 hat6 hlt6
                  have HO6:=hidOwn hown6
                  have B6:Hid (Below w2.heap.size w2 w6):=B5.out.grown hgrow6 Z5.out G5.out
                  have S6:Hid (w6.cell? ⟨w.heap.size,1,none⟩=some (.slice adA 0 cp)∧w6.cell? ⟨w.heap.size+1,2,none⟩=some (.slice adB m cp2)):=⟨(B6.out.cell (p:=⟨w.heap.size,1,none⟩) (by simp;omega)).trans p1,(B6.out.cell (p:=⟨w.heap.size+1,2,none⟩) (by simp;omega)).trans q2⟩)
               | (go_at_call 26
                  with_reducible refine K5.mono ?_
                  rintro e w5 ⟨a5,m5,k5,rfl,o5,b5'⟩
                  have b5:Below w2.heap.size w2 w5:=⟨b5'.os,b5'.tape,b5'.output,b5'.size,b5'.block⟩
                  have B5:Hid (Below w2.heap.size w2 w5):=b5
                  have O5:Hid (w5.ownsRow w2.heap.size 56 2 (.slice a5 m5 k5) 0 (pcells ps)):=o5
                  have Z5:Hid (w2.heap.size≤w5.heap.size):=b5.size
                  have G5:Hid (∀ k,(Value.slice a5 m5 k5).ownBlock=some k→w2.heap.size≤k):=fun k hk=>(o5.lt k hk).1
                  have L5:Hid ((pcells qs).length=m*2):=by rw[Hid,pcells_length,HM0.out]
                  have F5:Hid (∀ j u,(pcells qs)[j]? = some u→w5.cell? ((⟨b2,off2,none⟩:Addr).add j)=some u):=flat_prs (HS2.out w5 (B2.trans (b5.mono B2.size))) HX2.out
                  have S5:Hid (w5.cell? ⟨w.heap.size,1,none⟩=some (.slice adA 0 cp)∧w5.cell? ⟨w.heap.size+1,2,none⟩=some (.slice adB m cp2)):=⟨(b5.cell (p:=⟨w.heap.size,1,none⟩) (by simp;omega)).trans p1,(b5.cell (p:=⟨w.heap.size+1,2,none⟩) (by simp;omega)).trans q2⟩
                  clear b5 b5' o5))
             all_goals go_wp2_with fail
             all_goals
              go_meet
              case rel=>exact⟨_,_,_,rfl,by rw[Hid,pcells_two,List.length_append,←HN.out,←HM0.out];have h6:=HO6.out;first | exact h6 | (simp only[Nat.zero_add] at h6 ⊢;exact h6),B6⟩
            case rest =>
             obtain⟨a5,m5,k5,rfl,HO5,HB5⟩:=hcut
             obtain⟨w5,rfl⟩:∃ W,W=wc:=⟨_,rfl⟩
             have o5:=HO5.out
             have b5:=HB5.out
             have HSm2:=HSm
             have O2:=HOp
             obtain⟨al,hal⟩:∃ al,al=ps ++ qs:=⟨_,rfl⟩
             have hal2:al.length≤1048576:=by rw[hal,List.length_append,←HN.out,←HM0.out];omega
             rw[←hal] at HE HM o5
             have HE1:=HE.out
             rw[HFO.out] at HE1
             simp only[Bool.not_false,Bool.true_and] at HE1
             have HE2:Hid _:=HE1
             clear HE HE1 hal HO5 HB5 K5 HO
             obtain⟨rfl,_,i5⟩:=isPairs_own o5
             have s5:=b5.size
             have B5:=B2.trans (b5.mono B2.size)
             have z5:=z2.trans (b5.mono (by omega))
             have HZ5:Hid (_=_):=(b5.block (w.heap.size+2) (by omega)).trans HZ2.out
             have HSm5:Hid (_=_):=(b5.block bs (by omega)).trans HSm2.out
             have O5:=hidOwn (own_block O2.out (fun k hk=>b5.block k (O2.out.lt k hk).2))
             have P5:=hidOwn o5
             have HI5:Hid (∀ W,Below w5.heap.size w5 W→IsPairs W a5 al):=fun W h=>i5.later h
             have HNA:Hid ((Value.slice a5 al.length k5).ownBlock≠some (w.heap.size+2)):=fun h=>by have:=(P5.out.lt _ h).1;omega
             have K6:=spec_rootOf a5 k5 al w5 hal2 HM.out i5
             obtain⟨rr,hrr⟩:∃ rr,rr=rootR al:=⟨_,rfl⟩
             obtain⟨ro,hro⟩:∃ ro,ro=rootOk al:=⟨_,rfl⟩
             obtain⟨pk,hpk⟩:∃ pk,pk=pairsOkL al:=⟨_,rfl⟩
             rw[←hrr,←hro] at K6
             rw[←hrr,←hro,←hpk] at HE2
             clear o5 b5 p0 p1 p2 q0 q1 q2 x0 x1 x2 i5 hrr hro
             go_wp2_with fail
             refine K6.mono ?_
             rintro e w6 ⟨rfl,b6⟩
             have s6:=b6.size
             have B6:=B5.trans (b6.mono B5.size)
             have z6:=z5.trans (b6.mono (by omega))
             have HZ6:Hid (_=_):=(b6.block (w.heap.size+2) (by omega)).trans HZ5.out
             have HSm6:Hid (_=_):=(b6.block bs (by omega)).trans HSm5.out
             have O6:=hidOwn (own_block O5.out (fun k hk=>b6.block k (O5.out.lt k hk).2))
             have P6:=hidOwn (own_block P5.out (fun k hk=>b6.block k (P5.out.lt k hk).2))
             have K7:=spec_pairsOk a5 k5 al w6 hal2 HM.out (HI5.out w6 b6)
             rw[←hpk] at K7
             clear b6 K6 hpk
             obtain⟨z9,hz9⟩:∃ z,z=decide (rr=r):=⟨_,rfl⟩
             rw[←hz9] at HE2
             have hzb:(rr == r)=z9:=by
              rw[hz9]
              by_cases h:rr=r
              · simp[h]
              · simp[h]
             clear hz9
             cases pk with
             | false =>
               have HEQ0:Hid (tb=false∧tp=ps∧td=false):=by
                obtain⟨h1,h2,h3⟩:=HE2.out
                simp at h1
                rw[h1] at h2 h3
                simp only[Bool.false_eq_true,if_false] at h2 h3
                exact⟨h1,h2,h3⟩
               go_wp2_with fail
               refine K7.mono ?_
               rintro e w7 ⟨rfl,b7⟩
               have s7:=b7.size
               have B7:=B6.trans (b7.mono B6.size)
               have z7:=z6.trans (b7.mono (by omega))
               have HZ7:Hid (_=_):=(b7.block (w.heap.size+2) (by omega)).trans HZ6.out
               have HSm7:Hid (_=_):=(b7.block bs (by omega)).trans HSm6.out
               have O7:=hidOwn (own_block O6.out (fun k hk=>b7.block k (O6.out.lt k hk).2))
               have P7:=hidOwn (own_block P6.out (fun k hk=>b7.block k (P6.out.lt k hk).2))
               obtain⟨p0,p1,p2,_⟩:=HC1.out w7 z7
               obtain⟨q0,q1,q2,_⟩:=HC2.out w7 z7
               obtain⟨v0,v1,v2,_⟩:=im_cells HSm7.out
               clear b7 K7 HE2
               have HEQ:=HEQ0.out
               obtain⟨y0,y1,y2,yf⟩:=im_cells HZ7.out
               have yf0:=yf 0
               have yf1:=yf 1
               have yf2:=yf 2
               have HY:Hid (_∧_∧_):=im_store HZ7.out (by omega) B7 (O7.out.mono (base':=w.heap.size) (by omega)) HNE.out (.string ⟨r.toArray⟩) (.slice a3 m3 k3) (.bool false)
               have HEQ1:Hid (_∧_∧_):=HEQ
               clear yf HEQ
               go_wp2
               exact bodyPost_ret (v:=.tuple #[.agg #[.string ⟨r.toArray⟩,.slice a3 m3 k3,.bool false],.bool false]) (results_im rfl _ _ (w.heap.size+2) 33 _ _ rfl HY.out.1 Tryz.underlying33 rfl (by kernel_rfl) _ rfl) rfl ⟨a3,m3,k3,by rw[HEQ1.out.1,HEQ1.out.2.2],by rw[HEQ1.out.2.1];exact HY.out.2.2,HY.out.2.1⟩
             | true =>
               cases l with
               | false =>
                 have HEQ0:Hid (tb=true∧tp=al∧td=false):=by
                  obtain⟨h1,h2,h3⟩:=HE2.out
                  simp at h1
                  rw[h1] at h2 h3
                  simp only[if_true] at h2 h3
                  exact⟨h1,h2,h3⟩
                 go_wp2_with fail
                 refine K7.mono ?_
                 rintro e w7 ⟨rfl,b7⟩
                 have s7:=b7.size
                 have B7:=B6.trans (b7.mono B6.size)
                 have z7:=z6.trans (b7.mono (by omega))
                 have HZ7:Hid (_=_):=(b7.block (w.heap.size+2) (by omega)).trans HZ6.out
                 have HSm7:Hid (_=_):=(b7.block bs (by omega)).trans HSm6.out
                 have O7:=hidOwn (own_block O6.out (fun k hk=>b7.block k (O6.out.lt k hk).2))
                 have P7:=hidOwn (own_block P6.out (fun k hk=>b7.block k (P6.out.lt k hk).2))
                 obtain⟨p0,p1,p2,_⟩:=HC1.out w7 z7
                 obtain⟨q0,q1,q2,_⟩:=HC2.out w7 z7
                 obtain⟨v0,v1,v2,_⟩:=im_cells HSm7.out
                 clear b7 K7 HE2
                 obtain⟨y0,y1,y2,yf⟩:=im_cells HZ7.out
                 have yf0:=yf 0
                 have yf1:=yf 1
                 have yf2:=yf 2
                 have HY:Hid (_∧_∧_):=im_store HZ7.out (by omega) B7 (P7.out.mono (base':=w.heap.size) (by omega)) HNA.out (.string ⟨r.toArray⟩) (.slice a5 al.length k5) (.bool false)
                 clear yf
                 go_wp2
                 exact bodyPost_ret (v:=.tuple #[.agg #[.string ⟨r.toArray⟩,.slice a5 al.length k5,.bool false],.bool true]) (results_im rfl _ _ (w.heap.size+2) 33 _ _ rfl HY.out.1 Tryz.underlying33 rfl (by kernel_rfl) _ rfl) rfl ⟨a5,al.length,k5,by rw[HEQ0.out.1,HEQ0.out.2.2],by rw[HEQ0.out.2.1];exact HY.out.2.2,HY.out.2.1⟩
               | true =>
                 cases ro with
                 | false =>
                   have HEQ0:Hid (tb=false∧tp=ps∧td=false):=by
                    obtain⟨h1,h2,h3⟩:=HE2.out
                    simp at h1
                    rw[h1] at h2 h3
                    simp only[Bool.false_eq_true,if_false] at h2 h3
                    exact⟨h1,h2,h3⟩
                   go_wp2_with fail
                   refine K7.mono ?_
                   rintro e w7 ⟨rfl,b7⟩
                   have s7:=b7.size
                   have B7:=B6.trans (b7.mono B6.size)
                   have z7:=z6.trans (b7.mono (by omega))
                   have HZ7:Hid (_=_):=(b7.block (w.heap.size+2) (by omega)).trans HZ6.out
                   have HSm7:Hid (_=_):=(b7.block bs (by omega)).trans HSm6.out
                   have O7:=hidOwn (own_block O6.out (fun k hk=>b7.block k (O6.out.lt k hk).2))
                   have P7:=hidOwn (own_block P6.out (fun k hk=>b7.block k (P6.out.lt k hk).2))
                   obtain⟨p0,p1,p2,_⟩:=HC1.out w7 z7
                   obtain⟨q0,q1,q2,_⟩:=HC2.out w7 z7
                   obtain⟨v0,v1,v2,_⟩:=im_cells HSm7.out
                   clear b7 K7 HE2
                   have HEQ:=HEQ0.out
                   obtain⟨y0,y1,y2,yf⟩:=im_cells HZ7.out
                   have yf0:=yf 0
                   have yf1:=yf 1
                   have yf2:=yf 2
                   have HY:Hid (_∧_∧_):=im_store HZ7.out (by omega) B7 (O7.out.mono (base':=w.heap.size) (by omega)) HNE.out (.string ⟨r.toArray⟩) (.slice a3 m3 k3) (.bool false)
                   have HEQ1:Hid (_∧_∧_):=HEQ
                   clear yf HEQ
                   go_wp2
                   exact bodyPost_ret (v:=.tuple #[.agg #[.string ⟨r.toArray⟩,.slice a3 m3 k3,.bool false],.bool false]) (results_im rfl _ _ (w.heap.size+2) 33 _ _ rfl HY.out.1 Tryz.underlying33 rfl (by kernel_rfl) _ rfl) rfl ⟨a3,m3,k3,by rw[HEQ1.out.1,HEQ1.out.2.2],by rw[HEQ1.out.2.1];exact HY.out.2.2,HY.out.2.1⟩
                 | true =>
                   cases z9 with
                   | false =>
                     have HEQ0:Hid (tb=false∧tp=ps∧td=false):=by
                      obtain⟨h1,h2,h3⟩:=HE2.out
                      simp at h1
                      rw[h1] at h2 h3
                      simp only[Bool.false_eq_true,if_false] at h2 h3
                      exact⟨h1,h2,h3⟩
                     go_wp2_with fail
                     refine K7.mono ?_
                     rintro e w7 ⟨rfl,b7⟩
                     have s7:=b7.size
                     have B7:=B6.trans (b7.mono B6.size)
                     have z7:=z6.trans (b7.mono (by omega))
                     have HZ7:Hid (_=_):=(b7.block (w.heap.size+2) (by omega)).trans HZ6.out
                     have HSm7:Hid (_=_):=(b7.block bs (by omega)).trans HSm6.out
                     have O7:=hidOwn (own_block O6.out (fun k hk=>b7.block k (O6.out.lt k hk).2))
                     have P7:=hidOwn (own_block P6.out (fun k hk=>b7.block k (P6.out.lt k hk).2))
                     obtain⟨p0,p1,p2,_⟩:=HC1.out w7 z7
                     obtain⟨q0,q1,q2,_⟩:=HC2.out w7 z7
                     obtain⟨v0,v1,v2,_⟩:=im_cells HSm7.out
                     clear b7 K7 HE2
                     have HEQ:=HEQ0.out
                     obtain⟨y0,y1,y2,yf⟩:=im_cells HZ7.out
                     have yf0:=yf 0
                     have yf1:=yf 1
                     have yf2:=yf 2
                     have HY:Hid (_∧_∧_):=im_store HZ7.out (by omega) B7 (O7.out.mono (base':=w.heap.size) (by omega)) HNE.out (.string ⟨r.toArray⟩) (.slice a3 m3 k3) (.bool false)
                     have HEQ1:Hid (_∧_∧_):=HEQ
                     clear yf HEQ
                     go_wp2
                     exact bodyPost_ret (v:=.tuple #[.agg #[.string ⟨r.toArray⟩,.slice a3 m3 k3,.bool false],.bool false]) (results_im rfl _ _ (w.heap.size+2) 33 _ _ rfl HY.out.1 Tryz.underlying33 rfl (by kernel_rfl) _ rfl) rfl ⟨a3,m3,k3,by rw[HEQ1.out.1,HEQ1.out.2.2],by rw[HEQ1.out.2.1];exact HY.out.2.2,HY.out.2.1⟩
                   | true =>
                     have HEQ0:Hid (tb=true∧tp=al∧td=true):=by
                      obtain⟨h1,h2,h3⟩:=HE2.out
                      simp at h1
                      rw[h1] at h2 h3
                      simp only[if_true] at h2 h3
                      exact⟨h1,h2,h3⟩
                     go_wp2_with fail
                     refine K7.mono ?_
                     rintro e w7 ⟨rfl,b7⟩
                     have s7:=b7.size
                     have B7:=B6.trans (b7.mono B6.size)
                     have z7:=z6.trans (b7.mono (by omega))
                     have HZ7:Hid (_=_):=(b7.block (w.heap.size+2) (by omega)).trans HZ6.out
                     have HSm7:Hid (_=_):=(b7.block bs (by omega)).trans HSm6.out
                     have O7:=hidOwn (own_block O6.out (fun k hk=>b7.block k (O6.out.lt k hk).2))
                     have P7:=hidOwn (own_block P6.out (fun k hk=>b7.block k (P6.out.lt k hk).2))
                     obtain⟨p0,p1,p2,_⟩:=HC1.out w7 z7
                     obtain⟨q0,q1,q2,_⟩:=HC2.out w7 z7
                     obtain⟨v0,v1,v2,_⟩:=im_cells HSm7.out
                     clear b7 K7 HE2
                     obtain⟨y0,y1,y2,yf⟩:=im_cells HZ7.out
                     have yf0:=yf 0
                     have yf1:=yf 1
                     have yf2:=yf 2
                     have HY:Hid (_∧_∧_):=im_store HZ7.out (by omega) B7 (P7.out.mono (base':=w.heap.size) (by omega)) HNA.out (.string ⟨r.toArray⟩) (.slice a5 al.length k5) (.bool true)
                     clear yf
                     go_wp2
                     exact bodyPost_ret (v:=.tuple #[.agg #[.string ⟨r.toArray⟩,.slice a5 al.length k5,.bool true],.bool true]) (results_im rfl _ _ (w.heap.size+2) 33 _ _ rfl HY.out.1 Tryz.underlying33 rfl (by kernel_rfl) _ rfl) rfl ⟨a5,al.length,k5,by rw[HEQ0.out.1,HEQ0.out.2.2],by rw[HEQ0.out.2.1];exact HY.out.2.2,HY.out.2.1⟩
          · go_wp2_with fail
            go_cut [7] from 55 (fun v wx=>∃ (a:Option Addr) (k c:Nat),v=.slice a k c∧Hid (wx.ownsRow w2.heap.size 56 2 (.slice a k c) (ps ++ qs).length (pcells (ps ++ qs)))∧Hid (Below w2.heap.size w2 wx))
            case first =>
             go_region_held3 (fun w'=>w'.cell? ⟨w.heap.size,1,none⟩=some (.slice adA 0 cp)∧w'.cell? ⟨w.heap.size+1,2,none⟩=some (.slice adB 0 cp2))
              (first | with_reducible exact S5.out | exact⟨p1,q2⟩)
              (first
               | (refine step_append_nothing rfl (.tmp 57) (.tmp 59) 24 rfl (.slice a5 m5 k5) (.slice adB 0 cp2) (by simp[Act.eval]) (by simp[Act.eval]) HR5.out ?_)
               | (go_at_call 26
                  with_reducible refine K5.mono ?_
                  rintro e w5 ⟨a5,m5,k5,rfl,o5,b5'⟩
                  have b5:Below w2.heap.size w2 w5:=⟨b5'.os,b5'.tape,b5'.output,b5'.size,b5'.block⟩
                  have B5:Hid (Below w2.heap.size w2 w5):=b5
                  have O5:Hid (w5.ownsRow w2.heap.size 56 2 (.slice a5 m5 k5) 0 (pcells ps)):=o5
                  have Z5:Hid (w2.heap.size≤w5.heap.size):=b5.size
                  have G5:Hid (∀ k,(Value.slice a5 m5 k5).ownBlock=some k→w2.heap.size≤k):=fun k hk=>(o5.lt k hk).1
                  have L5:Hid ((pcells qs).length=0*2):=by rw[Hid,pcells_length,HM0.out]
                  have HR5:Hid (∀ ty,(Builtin.append_ #[24,24] ty #[.slice a5 m5 k5,.slice adB 0 cp2]).run Tryz.prog w5=.ok (.slice a5 m5 k5) w5):=fun ty=>run_append_nothing w5 _ _ ty 56 i0 Tryz.underlying24 hi0 a5 m5 k5 (own_le o5) _ (by rw[show i0.size=2 from hz1];exact src_nil)
                  have S5:Hid (w5.cell? ⟨w.heap.size,1,none⟩=some (.slice adA 0 cp)∧w5.cell? ⟨w.heap.size+1,2,none⟩=some (.slice adB 0 cp2)):=⟨(b5.cell (p:=⟨w.heap.size,1,none⟩) (by simp;omega)).trans p1,(b5.cell (p:=⟨w.heap.size+1,2,none⟩) (by simp;omega)).trans q2⟩
                  clear b5 b5' o5))
             all_goals go_wp2_with fail
             all_goals
              go_meet
              case rel=>exact⟨_,_,_,rfl,by rw[Hid,pcells_two,List.length_append,←HN.out,←HM0.out,List.eq_nil_of_length_eq_zero (l:=pcells qs) (by rw[L5.out]),List.append_nil];exact O5.out,B5⟩
            case rest =>
             obtain⟨a5,m5,k5,rfl,HO5,HB5⟩:=hcut
             obtain⟨w5,rfl⟩:∃ W,W=wc:=⟨_,rfl⟩
             have o5:=HO5.out
             have b5:=HB5.out
             have HSm2:=HSm
             have O2:=HOp
             obtain⟨al,hal⟩:∃ al,al=ps ++ qs:=⟨_,rfl⟩
             have hal2:al.length≤1048576:=by rw[hal,List.length_append,←HN.out,←HM0.out];omega
             rw[←hal] at HE HM o5
             have HE1:=HE.out
             rw[HFO.out] at HE1
             simp only[Bool.not_false,Bool.true_and] at HE1
             have HE2:Hid _:=HE1
             clear HE HE1 hal HO5 HB5 K5 HO
             obtain⟨rfl,_,i5⟩:=isPairs_own o5
             have s5:=b5.size
             have B5:=B2.trans (b5.mono B2.size)
             have z5:=z2.trans (b5.mono (by omega))
             have HZ5:Hid (_=_):=(b5.block (w.heap.size+2) (by omega)).trans HZ2.out
             have HSm5:Hid (_=_):=(b5.block bs (by omega)).trans HSm2.out
             have O5:=hidOwn (own_block O2.out (fun k hk=>b5.block k (O2.out.lt k hk).2))
             have P5:=hidOwn o5
             have HI5:Hid (∀ W,Below w5.heap.size w5 W→IsPairs W a5 al):=fun W h=>i5.later h
             have HNA:Hid ((Value.slice a5 al.length k5).ownBlock≠some (w.heap.size+2)):=fun h=>by have:=(P5.out.lt _ h).1;omega
             have K6:=spec_rootOf a5 k5 al w5 hal2 HM.out i5
             obtain⟨rr,hrr⟩:∃ rr,rr=rootR al:=⟨_,rfl⟩
             obtain⟨ro,hro⟩:∃ ro,ro=rootOk al:=⟨_,rfl⟩
             obtain⟨pk,hpk⟩:∃ pk,pk=pairsOkL al:=⟨_,rfl⟩
             rw[←hrr,←hro] at K6
             rw[←hrr,←hro,←hpk] at HE2
             clear o5 b5 p0 p1 p2 q0 q1 q2 x0 x1 x2 i5 hrr hro
             go_wp2_with fail
             refine K6.mono ?_
             rintro e w6 ⟨rfl,b6⟩
             have s6:=b6.size
             have B6:=B5.trans (b6.mono B5.size)
             have z6:=z5.trans (b6.mono (by omega))
             have HZ6:Hid (_=_):=(b6.block (w.heap.size+2) (by omega)).trans HZ5.out
             have HSm6:Hid (_=_):=(b6.block bs (by omega)).trans HSm5.out
             have O6:=hidOwn (own_block O5.out (fun k hk=>b6.block k (O5.out.lt k hk).2))
             have P6:=hidOwn (own_block P5.out (fun k hk=>b6.block k (P5.out.lt k hk).2))
             have K7:=spec_pairsOk a5 k5 al w6 hal2 HM.out (HI5.out w6 b6)
             rw[←hpk] at K7
             clear b6 K6 hpk
             obtain⟨z9,hz9⟩:∃ z,z=decide (rr=r):=⟨_,rfl⟩
             rw[←hz9] at HE2
             have hzb:(rr == r)=z9:=by
              rw[hz9]
              by_cases h:rr=r
              · simp[h]
              · simp[h]
             clear hz9
             cases pk with
             | false =>
               have HEQ0:Hid (tb=false∧tp=ps∧td=false):=by
                obtain⟨h1,h2,h3⟩:=HE2.out
                simp at h1
                rw[h1] at h2 h3
                simp only[Bool.false_eq_true,if_false] at h2 h3
                exact⟨h1,h2,h3⟩
               go_wp2_with fail
               refine K7.mono ?_
               rintro e w7 ⟨rfl,b7⟩
               have s7:=b7.size
               have B7:=B6.trans (b7.mono B6.size)
               have z7:=z6.trans (b7.mono (by omega))
               have HZ7:Hid (_=_):=(b7.block (w.heap.size+2) (by omega)).trans HZ6.out
               have HSm7:Hid (_=_):=(b7.block bs (by omega)).trans HSm6.out
               have O7:=hidOwn (own_block O6.out (fun k hk=>b7.block k (O6.out.lt k hk).2))
               have P7:=hidOwn (own_block P6.out (fun k hk=>b7.block k (P6.out.lt k hk).2))
               obtain⟨p0,p1,p2,_⟩:=HC1.out w7 z7
               obtain⟨q0,q1,q2,_⟩:=HC2.out w7 z7
               obtain⟨v0,v1,v2,_⟩:=im_cells HSm7.out
               clear b7 K7 HE2
               have HEQ:=HEQ0.out
               obtain⟨y0,y1,y2,yf⟩:=im_cells HZ7.out
               have yf0:=yf 0
               have yf1:=yf 1
               have yf2:=yf 2
               have HY:Hid (_∧_∧_):=im_store HZ7.out (by omega) B7 (O7.out.mono (base':=w.heap.size) (by omega)) HNE.out (.string ⟨r.toArray⟩) (.slice a3 m3 k3) (.bool false)
               have HEQ1:Hid (_∧_∧_):=HEQ
               clear yf HEQ
               go_wp2
               exact bodyPost_ret (v:=.tuple #[.agg #[.string ⟨r.toArray⟩,.slice a3 m3 k3,.bool false],.bool false]) (results_im rfl _ _ (w.heap.size+2) 33 _ _ rfl HY.out.1 Tryz.underlying33 rfl (by kernel_rfl) _ rfl) rfl ⟨a3,m3,k3,by rw[HEQ1.out.1,HEQ1.out.2.2],by rw[HEQ1.out.2.1];exact HY.out.2.2,HY.out.2.1⟩
             | true =>
               cases ro with
               | false =>
                 have HEQ0:Hid (tb=false∧tp=ps∧td=false):=by
                  obtain⟨h1,h2,h3⟩:=HE2.out
                  simp at h1
                  rw[h1] at h2 h3
                  simp only[Bool.false_eq_true,if_false] at h2 h3
                  exact⟨h1,h2,h3⟩
                 go_wp2_with fail
                 refine K7.mono ?_
                 rintro e w7 ⟨rfl,b7⟩
                 have s7:=b7.size
                 have B7:=B6.trans (b7.mono B6.size)
                 have z7:=z6.trans (b7.mono (by omega))
                 have HZ7:Hid (_=_):=(b7.block (w.heap.size+2) (by omega)).trans HZ6.out
                 have HSm7:Hid (_=_):=(b7.block bs (by omega)).trans HSm6.out
                 have O7:=hidOwn (own_block O6.out (fun k hk=>b7.block k (O6.out.lt k hk).2))
                 have P7:=hidOwn (own_block P6.out (fun k hk=>b7.block k (P6.out.lt k hk).2))
                 obtain⟨p0,p1,p2,_⟩:=HC1.out w7 z7
                 obtain⟨q0,q1,q2,_⟩:=HC2.out w7 z7
                 obtain⟨v0,v1,v2,_⟩:=im_cells HSm7.out
                 clear b7 K7 HE2
                 have HEQ:=HEQ0.out
                 obtain⟨y0,y1,y2,yf⟩:=im_cells HZ7.out
                 have yf0:=yf 0
                 have yf1:=yf 1
                 have yf2:=yf 2
                 have HY:Hid (_∧_∧_):=im_store HZ7.out (by omega) B7 (O7.out.mono (base':=w.heap.size) (by omega)) HNE.out (.string ⟨r.toArray⟩) (.slice a3 m3 k3) (.bool false)
                 have HEQ1:Hid (_∧_∧_):=HEQ
                 clear yf HEQ
                 go_wp2
                 exact bodyPost_ret (v:=.tuple #[.agg #[.string ⟨r.toArray⟩,.slice a3 m3 k3,.bool false],.bool false]) (results_im rfl _ _ (w.heap.size+2) 33 _ _ rfl HY.out.1 Tryz.underlying33 rfl (by kernel_rfl) _ rfl) rfl ⟨a3,m3,k3,by rw[HEQ1.out.1,HEQ1.out.2.2],by rw[HEQ1.out.2.1];exact HY.out.2.2,HY.out.2.1⟩
               | true =>
                 cases z9 with
                 | false =>
                   have HEQ0:Hid (tb=false∧tp=ps∧td=false):=by
                    obtain⟨h1,h2,h3⟩:=HE2.out
                    simp at h1
                    rw[h1] at h2 h3
                    simp only[Bool.false_eq_true,if_false] at h2 h3
                    exact⟨h1,h2,h3⟩
                   go_wp2_with fail
                   refine K7.mono ?_
                   rintro e w7 ⟨rfl,b7⟩
                   have s7:=b7.size
                   have B7:=B6.trans (b7.mono B6.size)
                   have z7:=z6.trans (b7.mono (by omega))
                   have HZ7:Hid (_=_):=(b7.block (w.heap.size+2) (by omega)).trans HZ6.out
                   have HSm7:Hid (_=_):=(b7.block bs (by omega)).trans HSm6.out
                   have O7:=hidOwn (own_block O6.out (fun k hk=>b7.block k (O6.out.lt k hk).2))
                   have P7:=hidOwn (own_block P6.out (fun k hk=>b7.block k (P6.out.lt k hk).2))
                   obtain⟨p0,p1,p2,_⟩:=HC1.out w7 z7
                   obtain⟨q0,q1,q2,_⟩:=HC2.out w7 z7
                   obtain⟨v0,v1,v2,_⟩:=im_cells HSm7.out
                   clear b7 K7 HE2
                   have HEQ:=HEQ0.out
                   obtain⟨y0,y1,y2,yf⟩:=im_cells HZ7.out
                   have yf0:=yf 0
                   have yf1:=yf 1
                   have yf2:=yf 2
                   have HY:Hid (_∧_∧_):=im_store HZ7.out (by omega) B7 (O7.out.mono (base':=w.heap.size) (by omega)) HNE.out (.string ⟨r.toArray⟩) (.slice a3 m3 k3) (.bool false)
                   have HEQ1:Hid (_∧_∧_):=HEQ
                   clear yf HEQ
                   go_wp2
                   exact bodyPost_ret (v:=.tuple #[.agg #[.string ⟨r.toArray⟩,.slice a3 m3 k3,.bool false],.bool false]) (results_im rfl _ _ (w.heap.size+2) 33 _ _ rfl HY.out.1 Tryz.underlying33 rfl (by kernel_rfl) _ rfl) rfl ⟨a3,m3,k3,by rw[HEQ1.out.1,HEQ1.out.2.2],by rw[HEQ1.out.2.1];exact HY.out.2.2,HY.out.2.1⟩
                 | true =>
                   have HEQ0:Hid (tb=true∧tp=al∧td=true):=by
                    obtain⟨h1,h2,h3⟩:=HE2.out
                    simp at h1
                    rw[h1] at h2 h3
                    simp only[if_true] at h2 h3
                    exact⟨h1,h2,h3⟩
                   go_wp2_with fail
                   refine K7.mono ?_
                   rintro e w7 ⟨rfl,b7⟩
                   have s7:=b7.size
                   have B7:=B6.trans (b7.mono B6.size)
                   have z7:=z6.trans (b7.mono (by omega))
                   have HZ7:Hid (_=_):=(b7.block (w.heap.size+2) (by omega)).trans HZ6.out
                   have HSm7:Hid (_=_):=(b7.block bs (by omega)).trans HSm6.out
                   have O7:=hidOwn (own_block O6.out (fun k hk=>b7.block k (O6.out.lt k hk).2))
                   have P7:=hidOwn (own_block P6.out (fun k hk=>b7.block k (P6.out.lt k hk).2))
                   obtain⟨p0,p1,p2,_⟩:=HC1.out w7 z7
                   obtain⟨q0,q1,q2,_⟩:=HC2.out w7 z7
                   obtain⟨v0,v1,v2,_⟩:=im_cells HSm7.out
                   clear b7 K7 HE2
                   obtain⟨y0,y1,y2,yf⟩:=im_cells HZ7.out
                   have yf0:=yf 0
                   have yf1:=yf 1
                   have yf2:=yf 2
                   have HY:Hid (_∧_∧_):=im_store HZ7.out (by omega) B7 (P7.out.mono (base':=w.heap.size) (by omega)) HNA.out (.string ⟨r.toArray⟩) (.slice a5 al.length k5) (.bool true)
                   clear yf
                   go_wp2
                   exact bodyPost_ret (v:=.tuple #[.agg #[.string ⟨r.toArray⟩,.slice a5 al.length k5,.bool true],.bool true]) (results_im rfl _ _ (w.heap.size+2) 33 _ _ rfl HY.out.1 Tryz.underlying33 rfl (by kernel_rfl) _ rfl) rfl ⟨a5,al.length,k5,by rw[HEQ0.out.1,HEQ0.out.2.2],by rw[HEQ0.out.2.1];exact HY.out.2.2,HY.out.2.1⟩
        · rcases hm with ⟨hm0, hm, hm8⟩ | ⟨_, hm, _⟩
          · skip
            obtain⟨b2,off2,HX2⟩:∃ b2 off2,Hid (adB=some ⟨b2,off2,none⟩):=by
             rcases HS2.out w (Below.refl _ _) with h | ⟨b9,o9,h,_⟩
             · exfalso;have h1:=HM0.out;have h2:=hm0.out;rw[h] at h1;simp at h1;omega
             · exact⟨b9,o9,h⟩
            go_wp2_with fail
            go_cut [7] from 55 (fun v wx=>∃ (a:Option Addr) (k c:Nat),v=.slice a k c∧Hid (wx.ownsRow w2.heap.size 56 2 (.slice a k c) (ps ++ qs).length (pcells (ps ++ qs)))∧Hid (Below w2.heap.size w2 wx))
            case first =>
             go_region_held3 (fun w'=>w'.cell? ⟨w.heap.size,1,none⟩=some (.slice adA n cp)∧w'.cell? ⟨w.heap.size+1,2,none⟩=some (.slice adB m cp2))
              (first | with_reducible exact S6.out | with_reducible exact S5.out | exact⟨p1,q2⟩)
              (first
               | (refine step_append_lies _ rfl (.tmp 57) (.tmp 59) 24 rfl w2.heap.size 56 i0 (.agg #[.string ⟨#[]⟩, .string ⟨#[]⟩]) 2 32 Tryz.underlying24 hi0 hz0 hz1 hz2 rfl (by decide) (.slice a5 m5 k5) n (pcells ps) (by simp [Act.eval]) O5.out ⟨b2, off2, none⟩ m cp2 (pcells qs) (by simp [Act.eval]; exact HX2.out) L5.out F5.out (pcells_one qs) hm0.out (by unfold maxLen; omega) (by omega) Z5.out _ rfl ?_
                  intro g6 c6 w6 hown6 hgrow6 hat6 hlt6
                  have HO6:=hidOwn hown6
                  have B6:Hid (Below w2.heap.size w2 w6):=B5.out.grown hgrow6 Z5.out G5.out
                  have S6:Hid (w6.cell? ⟨w.heap.size,1,none⟩=some (.slice adA n cp)∧w6.cell? ⟨w.heap.size+1,2,none⟩=some (.slice adB m cp2)):=⟨(B6.out.cell (p:=⟨w.heap.size,1,none⟩) (by simp;omega)).trans p1,(B6.out.cell (p:=⟨w.heap.size+1,2,none⟩) (by simp;omega)).trans q2⟩)
               | (go_at_call 26
                  with_reducible refine K5.mono ?_
                  rintro e w5 ⟨a5,m5,k5,rfl,o5,b5'⟩
                  have b5:Below w2.heap.size w2 w5:=⟨b5'.os,b5'.tape,b5'.output,b5'.size,b5'.block⟩
                  have B5:Hid (Below w2.heap.size w2 w5):=b5
                  have O5:Hid (w5.ownsRow w2.heap.size 56 2 (.slice a5 m5 k5) n (pcells ps)):=o5
                  have Z5:Hid (w2.heap.size≤w5.heap.size):=b5.size
                  have G5:Hid (∀ k,(Value.slice a5 m5 k5).ownBlock=some k→w2.heap.size≤k):=fun k hk=>(o5.lt k hk).1
                  have L5:Hid ((pcells qs).length=m*2):=by rw[Hid,pcells_length,HM0.out]
                  have F5:Hid (∀ j u,(pcells qs)[j]? = some u→w5.cell? ((⟨b2,off2,none⟩:Addr).add j)=some u):=flat_prs (HS2.out w5 (B2.trans (b5.mono B2.size))) HX2.out
                  have S5:Hid (w5.cell? ⟨w.heap.size,1,none⟩=some (.slice adA n cp)∧w5.cell? ⟨w.heap.size+1,2,none⟩=some (.slice adB m cp2)):=⟨(b5.cell (p:=⟨w.heap.size,1,none⟩) (by simp;omega)).trans p1,(b5.cell (p:=⟨w.heap.size+1,2,none⟩) (by simp;omega)).trans q2⟩
                  clear b5 b5' o5))
             all_goals go_wp2_with fail
             all_goals
              go_meet
              case rel=>exact⟨_,_,_,rfl,by rw[Hid,pcells_two,List.length_append,←HN.out,←HM0.out];have h6:=HO6.out;first | exact h6 | (simp only[Nat.zero_add] at h6 ⊢;exact h6),B6⟩
            case rest =>
             obtain⟨a5,m5,k5,rfl,HO5,HB5⟩:=hcut
             obtain⟨w5,rfl⟩:∃ W,W=wc:=⟨_,rfl⟩
             have o5:=HO5.out
             have b5:=HB5.out
             have HSm2:=HSm
             have O2:=HOp
             obtain⟨al,hal⟩:∃ al,al=ps ++ qs:=⟨_,rfl⟩
             have hal2:al.length≤1048576:=by rw[hal,List.length_append,←HN.out,←HM0.out];omega
             rw[←hal] at HE HM o5
             have HE1:=HE.out
             rw[HFO.out] at HE1
             simp only[Bool.not_false,Bool.true_and] at HE1
             have HE2:Hid _:=HE1
             clear HE HE1 hal HO5 HB5 K5 HO
             obtain⟨rfl,_,i5⟩:=isPairs_own o5
             have s5:=b5.size
             have B5:=B2.trans (b5.mono B2.size)
             have z5:=z2.trans (b5.mono (by omega))
             have HZ5:Hid (_=_):=(b5.block (w.heap.size+2) (by omega)).trans HZ2.out
             have HSm5:Hid (_=_):=(b5.block bs (by omega)).trans HSm2.out
             have O5:=hidOwn (own_block O2.out (fun k hk=>b5.block k (O2.out.lt k hk).2))
             have P5:=hidOwn o5
             have HI5:Hid (∀ W,Below w5.heap.size w5 W→IsPairs W a5 al):=fun W h=>i5.later h
             have HNA:Hid ((Value.slice a5 al.length k5).ownBlock≠some (w.heap.size+2)):=fun h=>by have:=(P5.out.lt _ h).1;omega
             have K6:=spec_rootOf a5 k5 al w5 hal2 HM.out i5
             obtain⟨rr,hrr⟩:∃ rr,rr=rootR al:=⟨_,rfl⟩
             obtain⟨ro,hro⟩:∃ ro,ro=rootOk al:=⟨_,rfl⟩
             obtain⟨pk,hpk⟩:∃ pk,pk=pairsOkL al:=⟨_,rfl⟩
             rw[←hrr,←hro] at K6
             rw[←hrr,←hro,←hpk] at HE2
             clear o5 b5 p0 p1 p2 q0 q1 q2 x0 x1 x2 i5 hrr hro
             go_wp2_with fail
             refine K6.mono ?_
             rintro e w6 ⟨rfl,b6⟩
             have s6:=b6.size
             have B6:=B5.trans (b6.mono B5.size)
             have z6:=z5.trans (b6.mono (by omega))
             have HZ6:Hid (_=_):=(b6.block (w.heap.size+2) (by omega)).trans HZ5.out
             have HSm6:Hid (_=_):=(b6.block bs (by omega)).trans HSm5.out
             have O6:=hidOwn (own_block O5.out (fun k hk=>b6.block k (O5.out.lt k hk).2))
             have P6:=hidOwn (own_block P5.out (fun k hk=>b6.block k (P5.out.lt k hk).2))
             have K7:=spec_pairsOk a5 k5 al w6 hal2 HM.out (HI5.out w6 b6)
             rw[←hpk] at K7
             clear b6 K6 hpk
             obtain⟨z9,hz9⟩:∃ z,z=decide (rr=r):=⟨_,rfl⟩
             rw[←hz9] at HE2
             have hzb:(rr == r)=z9:=by
              rw[hz9]
              by_cases h:rr=r
              · simp[h]
              · simp[h]
             clear hz9
             cases pk with
             | false =>
               have HEQ0:Hid (tb=false∧tp=ps∧td=false):=by
                obtain⟨h1,h2,h3⟩:=HE2.out
                simp at h1
                rw[h1] at h2 h3
                simp only[Bool.false_eq_true,if_false] at h2 h3
                exact⟨h1,h2,h3⟩
               go_wp2_with fail
               refine K7.mono ?_
               rintro e w7 ⟨rfl,b7⟩
               have s7:=b7.size
               have B7:=B6.trans (b7.mono B6.size)
               have z7:=z6.trans (b7.mono (by omega))
               have HZ7:Hid (_=_):=(b7.block (w.heap.size+2) (by omega)).trans HZ6.out
               have HSm7:Hid (_=_):=(b7.block bs (by omega)).trans HSm6.out
               have O7:=hidOwn (own_block O6.out (fun k hk=>b7.block k (O6.out.lt k hk).2))
               have P7:=hidOwn (own_block P6.out (fun k hk=>b7.block k (P6.out.lt k hk).2))
               obtain⟨p0,p1,p2,_⟩:=HC1.out w7 z7
               obtain⟨q0,q1,q2,_⟩:=HC2.out w7 z7
               obtain⟨v0,v1,v2,_⟩:=im_cells HSm7.out
               clear b7 K7 HE2
               have HEQ:=HEQ0.out
               obtain⟨y0,y1,y2,yf⟩:=im_cells HZ7.out
               have yf0:=yf 0
               have yf1:=yf 1
               have yf2:=yf 2
               have HY:Hid (_∧_∧_):=im_store HZ7.out (by omega) B7 (O7.out.mono (base':=w.heap.size) (by omega)) HNE.out (.string ⟨r.toArray⟩) (.slice a3 m3 k3) (.bool false)
               have HEQ1:Hid (_∧_∧_):=HEQ
               clear yf HEQ
               go_wp2
               exact bodyPost_ret (v:=.tuple #[.agg #[.string ⟨r.toArray⟩,.slice a3 m3 k3,.bool false],.bool false]) (results_im rfl _ _ (w.heap.size+2) 33 _ _ rfl HY.out.1 Tryz.underlying33 rfl (by kernel_rfl) _ rfl) rfl ⟨a3,m3,k3,by rw[HEQ1.out.1,HEQ1.out.2.2],by rw[HEQ1.out.2.1];exact HY.out.2.2,HY.out.2.1⟩
             | true =>
               cases l with
               | false =>
                 have HEQ0:Hid (tb=true∧tp=al∧td=false):=by
                  obtain⟨h1,h2,h3⟩:=HE2.out
                  simp at h1
                  rw[h1] at h2 h3
                  simp only[if_true] at h2 h3
                  exact⟨h1,h2,h3⟩
                 go_wp2_with fail
                 refine K7.mono ?_
                 rintro e w7 ⟨rfl,b7⟩
                 have s7:=b7.size
                 have B7:=B6.trans (b7.mono B6.size)
                 have z7:=z6.trans (b7.mono (by omega))
                 have HZ7:Hid (_=_):=(b7.block (w.heap.size+2) (by omega)).trans HZ6.out
                 have HSm7:Hid (_=_):=(b7.block bs (by omega)).trans HSm6.out
                 have O7:=hidOwn (own_block O6.out (fun k hk=>b7.block k (O6.out.lt k hk).2))
                 have P7:=hidOwn (own_block P6.out (fun k hk=>b7.block k (P6.out.lt k hk).2))
                 obtain⟨p0,p1,p2,_⟩:=HC1.out w7 z7
                 obtain⟨q0,q1,q2,_⟩:=HC2.out w7 z7
                 obtain⟨v0,v1,v2,_⟩:=im_cells HSm7.out
                 clear b7 K7 HE2
                 obtain⟨y0,y1,y2,yf⟩:=im_cells HZ7.out
                 have yf0:=yf 0
                 have yf1:=yf 1
                 have yf2:=yf 2
                 have HY:Hid (_∧_∧_):=im_store HZ7.out (by omega) B7 (P7.out.mono (base':=w.heap.size) (by omega)) HNA.out (.string ⟨r.toArray⟩) (.slice a5 al.length k5) (.bool false)
                 clear yf
                 go_wp2
                 exact bodyPost_ret (v:=.tuple #[.agg #[.string ⟨r.toArray⟩,.slice a5 al.length k5,.bool false],.bool true]) (results_im rfl _ _ (w.heap.size+2) 33 _ _ rfl HY.out.1 Tryz.underlying33 rfl (by kernel_rfl) _ rfl) rfl ⟨a5,al.length,k5,by rw[HEQ0.out.1,HEQ0.out.2.2],by rw[HEQ0.out.2.1];exact HY.out.2.2,HY.out.2.1⟩
               | true =>
                 cases ro with
                 | false =>
                   have HEQ0:Hid (tb=false∧tp=ps∧td=false):=by
                    obtain⟨h1,h2,h3⟩:=HE2.out
                    simp at h1
                    rw[h1] at h2 h3
                    simp only[Bool.false_eq_true,if_false] at h2 h3
                    exact⟨h1,h2,h3⟩
                   go_wp2_with fail
                   refine K7.mono ?_
                   rintro e w7 ⟨rfl,b7⟩
                   have s7:=b7.size
                   have B7:=B6.trans (b7.mono B6.size)
                   have z7:=z6.trans (b7.mono (by omega))
                   have HZ7:Hid (_=_):=(b7.block (w.heap.size+2) (by omega)).trans HZ6.out
                   have HSm7:Hid (_=_):=(b7.block bs (by omega)).trans HSm6.out
                   have O7:=hidOwn (own_block O6.out (fun k hk=>b7.block k (O6.out.lt k hk).2))
                   have P7:=hidOwn (own_block P6.out (fun k hk=>b7.block k (P6.out.lt k hk).2))
                   obtain⟨p0,p1,p2,_⟩:=HC1.out w7 z7
                   obtain⟨q0,q1,q2,_⟩:=HC2.out w7 z7
                   obtain⟨v0,v1,v2,_⟩:=im_cells HSm7.out
                   clear b7 K7 HE2
                   have HEQ:=HEQ0.out
                   obtain⟨y0,y1,y2,yf⟩:=im_cells HZ7.out
                   have yf0:=yf 0
                   have yf1:=yf 1
                   have yf2:=yf 2
                   have HY:Hid (_∧_∧_):=im_store HZ7.out (by omega) B7 (O7.out.mono (base':=w.heap.size) (by omega)) HNE.out (.string ⟨r.toArray⟩) (.slice a3 m3 k3) (.bool false)
                   have HEQ1:Hid (_∧_∧_):=HEQ
                   clear yf HEQ
                   go_wp2
                   exact bodyPost_ret (v:=.tuple #[.agg #[.string ⟨r.toArray⟩,.slice a3 m3 k3,.bool false],.bool false]) (results_im rfl _ _ (w.heap.size+2) 33 _ _ rfl HY.out.1 Tryz.underlying33 rfl (by kernel_rfl) _ rfl) rfl ⟨a3,m3,k3,by rw[HEQ1.out.1,HEQ1.out.2.2],by rw[HEQ1.out.2.1];exact HY.out.2.2,HY.out.2.1⟩
                 | true =>
                   cases z9 with
                   | false =>
                     have HEQ0:Hid (tb=false∧tp=ps∧td=false):=by
                      obtain⟨h1,h2,h3⟩:=HE2.out
                      simp at h1
                      rw[h1] at h2 h3
                      simp only[Bool.false_eq_true,if_false] at h2 h3
                      exact⟨h1,h2,h3⟩
                     go_wp2_with fail
                     refine K7.mono ?_
                     rintro e w7 ⟨rfl,b7⟩
                     have s7:=b7.size
                     have B7:=B6.trans (b7.mono B6.size)
                     have z7:=z6.trans (b7.mono (by omega))
                     have HZ7:Hid (_=_):=(b7.block (w.heap.size+2) (by omega)).trans HZ6.out
                     have HSm7:Hid (_=_):=(b7.block bs (by omega)).trans HSm6.out
                     have O7:=hidOwn (own_block O6.out (fun k hk=>b7.block k (O6.out.lt k hk).2))
                     have P7:=hidOwn (own_block P6.out (fun k hk=>b7.block k (P6.out.lt k hk).2))
                     obtain⟨p0,p1,p2,_⟩:=HC1.out w7 z7
                     obtain⟨q0,q1,q2,_⟩:=HC2.out w7 z7
                     obtain⟨v0,v1,v2,_⟩:=im_cells HSm7.out
                     clear b7 K7 HE2
                     have HEQ:=HEQ0.out
                     obtain⟨y0,y1,y2,yf⟩:=im_cells HZ7.out
                     have yf0:=yf 0
                     have yf1:=yf 1
                     have yf2:=yf 2
                     have HY:Hid (_∧_∧_):=im_store HZ7.out (by omega) B7 (O7.out.mono (base':=w.heap.size) (by omega)) HNE.out (.string ⟨r.toArray⟩) (.slice a3 m3 k3) (.bool false)
                     have HEQ1:Hid (_∧_∧_):=HEQ
                     clear yf HEQ
                     go_wp2
                     exact bodyPost_ret (v:=.tuple #[.agg #[.string ⟨r.toArray⟩,.slice a3 m3 k3,.bool false],.bool false]) (results_im rfl _ _ (w.heap.size+2) 33 _ _ rfl HY.out.1 Tryz.underlying33 rfl (by kernel_rfl) _ rfl) rfl ⟨a3,m3,k3,by rw[HEQ1.out.1,HEQ1.out.2.2],by rw[HEQ1.out.2.1];exact HY.out.2.2,HY.out.2.1⟩
                   | true =>
                     have HEQ0:Hid (tb=true∧tp=al∧td=true):=by
                      obtain⟨h1,h2,h3⟩:=HE2.out
                      simp at h1
                      rw[h1] at h2 h3
                      simp only[if_true] at h2 h3
                      exact⟨h1,h2,h3⟩
                     go_wp2_with fail
                     refine K7.mono ?_
                     rintro e w7 ⟨rfl,b7⟩
                     have s7:=b7.size
                     have B7:=B6.trans (b7.mono B6.size)
                     have z7:=z6.trans (b7.mono (by omega))
                     have HZ7:Hid (_=_):=(b7.block (w.heap.size+2) (by omega)).trans HZ6.out
                     have HSm7:Hid (_=_):=(b7.block bs (by omega)).trans HSm6.out
                     have O7:=hidOwn (own_block O6.out (fun k hk=>b7.block k (O6.out.lt k hk).2))
                     have P7:=hidOwn (own_block P6.out (fun k hk=>b7.block k (P6.out.lt k hk).2))
                     obtain⟨p0,p1,p2,_⟩:=HC1.out w7 z7
                     obtain⟨q0,q1,q2,_⟩:=HC2.out w7 z7
                     obtain⟨v0,v1,v2,_⟩:=im_cells HSm7.out
                     clear b7 K7 HE2
                     obtain⟨y0,y1,y2,yf⟩:=im_cells HZ7.out
                     have yf0:=yf 0
                     have yf1:=yf 1
                     have yf2:=yf 2
                     have HY:Hid (_∧_∧_):=im_store HZ7.out (by omega) B7 (P7.out.mono (base':=w.heap.size) (by omega)) HNA.out (.string ⟨r.toArray⟩) (.slice a5 al.length k5) (.bool true)
                     clear yf
                     go_wp2
                     exact bodyPost_ret (v:=.tuple #[.agg #[.string ⟨r.toArray⟩,.slice a5 al.length k5,.bool true],.bool true]) (results_im rfl _ _ (w.heap.size+2) 33 _ _ rfl HY.out.1 Tryz.underlying33 rfl (by kernel_rfl) _ rfl) rfl ⟨a5,al.length,k5,by rw[HEQ0.out.1,HEQ0.out.2.2],by rw[HEQ0.out.2.1];exact HY.out.2.2,HY.out.2.1⟩
          · cases hm
end Go.Proofs.YtahocpjieffbaaaGreatDoor
