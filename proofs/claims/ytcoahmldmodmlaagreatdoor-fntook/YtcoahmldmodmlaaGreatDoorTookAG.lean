/-
 Contracts: a list behind another (slices.Concat, slices.Grow), a part that follows.
-/
import Derived.Test.YtcoahmldmodmlaaGreatDoorImpO
import Derived.Test.YtcoahmldmodmlaaGreatDoorSetAll
import Derived.Test.YtcoahmldmodmlaaGreatDoorAppP
import Derived.Deep.AppendSrc
import Derived.Deep.Upon
import Derived.OwnWalk
import Derived.Lib.AppendZerosOnto
import Derived.Lib.Walk
namespace Go.Proofs.YtcoahmldmodmlaaGreatDoor
open Go.RowKit
set_option linter.unusedVariables false
set_option maxHeartbeats 1000000 in
set_option maxRecDepth 100000 in
theorem grow_any (n:Nat) (w:World) (hn:n≤1000) :
 Calls Tryz.prog 41 #[.slice none 0 0,.int .i64 (n:Int)] w fun e w'=>∃ (a:Option Addr) (c:Nat),e=.returned (.slice a 0 c)∧w'.ownsRow w.heap.size 46 2 (.slice a 0 c) 0 []∧Below w.heap.size w w':=by
 obtain⟨i0,hi0,hz0,hz1,hz2⟩:=info_parts infoPair
 have h0:¬ ((n:Int)<0):=by omega
 by_cases hp:0<n
 · have h1:(0:Int)<(n:Int):=by omega
   have hrz:∀ ty,(Builtin.append_ #[24,3] ty #[.slice none 0 0,.int .i64 (n:Int)]).run Tryz.prog w=_:=fun ty=>Lib.run_append_grow_zeros w 24 3 ty 46 i0 _ .i64 .i64 Tryz.underlying24 Tryz.underlying3 hi0 hz0 none 0 0 [] (run_firstCells_none w.drew i0.size 0 0 0) n hp (by omega) (by omega) (by omega) (by rw[hz2];omega) (by rw[hz2];exact growslice_fits (by omega) (by omega))
   have hG1:=grownCap_ge w n 0 46
   have hG2:=grownCap_le_maxLen w n 0 46 (by unfold maxLen;omega)
   simp only[Nat.zero_add] at hrz
   obtain⟨G,hG⟩:∃ G,G=grownCap w n 0 46:=⟨_,rfl⟩
   rw[←hG] at hG1 hG2 hrz
   obtain⟨cur,hcur⟩:∃ cur,cur=((([]:List Value).toArray ++ Builtin.zeroCells (Value.agg #[.string ⟨#[]⟩,.string ⟨#[]⟩]).cells n ++ Builtin.zeroCells (Value.agg #[.string ⟨#[]⟩,.string ⟨#[]⟩]).cells (G - n))):=⟨_,rfl⟩
   have hsz:Hid (cur.size=G*2):=by
    rw[Hid,hcur];simp[Builtin.zeroCells,Value.cells];omega
   rw[←hcur] at hrz
   have HG:Hid (G≤maxLen):=hG2
   have hG3:(0:Int)≤(G:Int):=by omega
   clear hG hcur hG2
   go_enter Tryz.func41,Tryz.ntmps41
   go_wp2_with (at_builtin;refine Lib.wpList_append_run _ rfl _ _ _ _ rfl _ _ rfl rfl _ _ (hrz _) ?_)
   go_ret
   refine⟨some ⟨w.heap.size,0,none⟩,G,rfl,?_,by first | exact ((Below.refl _ _).alloc (Nat.le_refl _) _).drew | exact ((Below.refl _ _).drew).alloc (by simp) _⟩
   refine⟨by simp,.inr ⟨w.heap.size,G,cur,rfl,Nat.le_refl _,?_,Nat.zero_le _,HG.out,hsz.out,by simp⟩⟩
   have:=heap_alloc_new w (.cells cur 46)
   first | exact this | simpa using this
 · have h1:n=0:=by omega
   subst h1
   go_enter Tryz.func41,Tryz.ntmps41
   go_wp2
   go_ret
   exact⟨none,0,rfl,World.ownsRow_nil _ _ _ _,Below.refl _ _⟩
theorem pcells_two (ps qs:List PairL):pcells (ps ++ qs)=pcells ps ++ pcells qs:=by
 induction ps with
 | nil=>rfl
 | cons p ps ih=>simp[pcells,ih]
theorem two_cellsT {w:World} {g:Nat} {u v:Value} {T:TypeId} (h:w.heap[g]? = some (.cells #[u,v] T)):w.cell? ⟨g,0,none⟩=some u∧w.cell? ⟨g,1,none⟩=some v:=by
 constructor <;> (unfold World.cell?;rw[h];rfl)
theorem clone_anyN (a:Option Addr) (cap:Nat) (qs:List PairL) (w:World) (haa:a=none∨∃ b off,a=some ⟨b,off,none⟩) (hca:a=none→cap=0) (hl:qs.length≤1000) (hs:IsPairs w a qs) :
 Calls Tryz.prog 16 #[.slice a qs.length cap] w fun e w'=>∃ (a:Option Addr) (m c:Nat),e=.returned (.slice a m c)∧w'.ownsRow w.heap.size 46 2 (.slice a m c) qs.length (pcells qs)∧Below w.heap.size w w':=by
 rcases haa with rfl | ⟨b,off,rfl⟩
 · obtain rfl:=hca rfl
   have hq:qs=[]:=by
    rcases hs with h | ⟨_,_,h,_⟩
    · exact h
    · cases h
   subst hq
   exact (clone_none w).mono fun e w' ⟨h1,h2⟩=>⟨none,0,0,h1,World.ownsRow_nil _ _ _ _,by rw[h2];exact Below.refl _ _⟩
 · exact clone_any b off cap qs w hl hs
theorem src_nil {x:Option Addr} {c:Nat} {w:World}:Src Tryz.prog 2 24 (.slice x 0 c) 0 [] w:=by
 cases x with
 | none=>exact Src.ofNil w Tryz.underlying24 c
 | some a=>exact Src.ofSlice w Tryz.underlying24 a 0 c [] (by simp) (by simp) (by simp)
set_option maxHeartbeats 2000000 in
set_option maxRecDepth 100000 in
theorem concat_x (adA adB:Option Addr) (c1 c2:Nat) (ps qs:List PairL) (g:Nat) (w:World) (haa:adA=none∨∃ b off,adA=some ⟨b,off,none⟩) (hca:adA=none→c1=0) (haa2:adB=none∨∃ b off,adB=some ⟨b,off,none⟩) (hca2:adB=none→c2=0) (hl:ps.length≤100) (hl2:qs.length≤100) (hcell:w.heap[g]? = some (.cells #[.slice adA ps.length c1,.slice adB qs.length c2] 24)) (hs:IsPairs w adA ps) (hs2:IsPairs w adB qs) :
 Calls Tryz.prog 33 #[.slice (some ⟨g,0,none⟩) 2 2] w fun e w'=>∃ (a:Option Addr) (m c:Nat),e=.returned (.slice a m c)∧w'.ownsRow w.heap.size 46 2 (.slice a m c) (ps ++ qs).length (pcells (ps ++ qs))∧Below w.heap.size w w':=by
 obtain⟨i0,hi0,hz0,hz1,hz2⟩:=info_parts infoPair
 obtain⟨p0,p1⟩:=two_cellsT hcell
 have HS:Hid (∀ W,Below w.heap.size w W→IsPairs W adA ps):=fun W hW=>hs.later hW
 have HS2:Hid (∀ W,Below w.heap.size w W→IsPairs W adB qs):=fun W hW=>hs2.later hW
 have HC:Hid (_=_):=hcell
 have hw1:wrap64 (ps.length:Int)=(ps.length:Int):=by unfold wrap64;omega
 have hw2:wrap64 ((ps.length:Int)+(qs.length:Int))=(ps.length:Int)+(qs.length:Int):=by unfold wrap64;omega
 have hn1:¬ ((ps.length:Int)<0):=by omega
 have hn2:¬ ((ps.length:Int)+(qs.length:Int)<0):=by omega
 have HCA:Hid (adA=none→c1=0):=hca
 have HCB:Hid (adB=none→c2=0):=hca2
 clear hs hs2 hcell hca hca2 haa haa2
 go_enter Tryz.func33,Tryz.ntmps33
 go_wp2
 refine wp_loop_rounds 3 ?_
 rw[rounds_succ]
 go_wp2
 rw[rounds_succ]
 go_wp2
 rw[rounds_succ]
 have K:=fun W=>grow_any (ps.length+qs.length) W (by omega)
 simp only[Int.natCast_add] at K
 go_wp2_with fail
 refine (K _).mono ?_
 rintro e w1 ⟨a1,k1,rfl,o1',B1⟩
 obtain⟨p0',p1'⟩:=two_cellsT ((B1.block g (lt_of_block HC.out)).trans HC.out)
 have HO1:=hidOwn o1'
 have HF1:Hid (IsPairs w1 adA ps):=HS.out w1 B1
 clear p0 p1 o1' K
 go_wp2
 refine wp_loop_rounds 3 ?_
 rw[rounds_succ]
 have hsz1:=B1.size
 go_wp2_with (at_builtin;refine wpList_append_prs rfl _ _ 24 rfl w.heap.size 46 i0 (.agg #[.string ⟨#[]⟩,.string ⟨#[]⟩]) 32 Tryz.underlying24 hi0 hz0 hz1 hz2 rfl (.slice a1 0 k1) 0 [] rfl HO1.out adA ps ps.length c1 rfl rfl HCA.out HF1.out (by unfold maxLen;omega) (by omega) (by first | exact hsz1 | omega | (simp <;> omega)) ?_;intro v3 w3 hown3 hgrow3;obtain⟨a3,m3,c3,rfl⟩:=own_slice2 hown3)
 have B3:Below w.heap.size w w3:=B1.grown hgrow3 hsz1 (fun k hk=>(HO1.out.lt k hk).1)
 have HO3:Hid (w3.ownsRow w.heap.size 46 2 (.slice a3 m3 c3) ps.length (pcells ps)):=by rw[Hid];simpa using hown3
 obtain⟨q0,q1⟩:=two_cellsT ((B3.block g (lt_of_block HC.out)).trans HC.out)
 have HF3:Hid (IsPairs w3 adB qs):=HS2.out w3 B3
 have hsz3:=B3.size
 clear hown3 hgrow3 p0' p1' HF1
 go_wp2
 rw[rounds_succ]
 go_wp2_with (at_builtin;refine wpList_append_prs rfl _ _ 24 rfl w.heap.size 46 i0 (.agg #[.string ⟨#[]⟩,.string ⟨#[]⟩]) 32 Tryz.underlying24 hi0 hz0 hz1 hz2 rfl (.slice a3 m3 c3) ps.length _ rfl HO3.out adB qs qs.length c2 rfl rfl HCB.out HF3.out (by unfold maxLen;omega) (by omega) (by first | exact hsz3 | omega | (simp <;> omega)) ?_;intro v4 w4 hown4 hgrow4;obtain⟨a4,m4,c4,rfl⟩:=own_slice2 hown4)
 have B4:Below w.heap.size w w4:=B3.grown hgrow4 hsz3 (fun k hk=>(HO3.out.lt k hk).1)
 have HO4:Hid (w4.ownsRow w.heap.size 46 2 (.slice a4 m4 c4) (ps ++ qs).length (pcells (ps ++ qs))):=by rw[Hid,pcells_two,List.length_append];exact hown4
 clear hown4 hgrow4 q0 q1 HF3
 go_wp2
 rw[rounds_succ]
 go_wp2
 go_ret
 exact⟨a4,m4,c4,rfl,HO4.out,B4⟩
def followsB (n:Nat) (f l:Bool) (m:Nat):Bool:=(f == decide (n=0)) && (decide (m≤8) && (decide (0<m) || (f && l)))
set_option maxHeartbeats 2000000 in
set_option maxRecDepth 100000 in
theorem follows_any (n m : Nat) (f l : Bool) (x y : Option Addr) (cx cy : Nat) (w : World) (hl : n ≤ 1048576) (hl2 : m ≤ 1048576) :
 Calls Tryz.prog 17 #[.agg #[.bool f,.bool l,.slice y m cy],.slice x n cx,.int .i64 8] w fun e w'=>e=.returned (.bool (followsB n f l m))∧Below w.heap.size w w':=by
 have B0:Below w.heap.size w (w.alloc (.cells #[.bool f,.bool l,.slice y m cy] 48)):=(Below.refl _ _).alloc (Nat.le_refl _) _
 obtain⟨p0,p1,p2,_⟩:=im_cells (heap_alloc_new w (.cells #[.bool f,.bool l,.slice y m cy] 48))
 have hp:n=0∨Hid (0<n)∧((n:Int) == 0)=false:=by
  rcases Nat.eq_zero_or_pos n with h | h
  · exact .inl h
  · exact .inr ⟨h,by simp;omega⟩
 have hq:m=0∨(Hid (0<m∧m≤8)∧(8<(m:Int))=False∧(0:Int)<(m:Int))∨(Hid (8<m)∧(8:Int)<(m:Int)):=by
  rcases Nat.eq_zero_or_pos m with h | h
  · exact .inl h
  · by_cases h8:m≤8
    · exact .inr (.inl ⟨⟨h,h8⟩,eq_false (by omega),by omega⟩)
    · exact .inr (.inr ⟨by rw[Hid];omega,by omega⟩)
 obtain⟨b,hb⟩:∃ b,b=followsB n f l m:=⟨_,rfl⟩
 rw[←hb]
 rcases hp with rfl | ⟨HP,hp⟩ <;> rcases hq with rfl | ⟨HQ,hq,hq0⟩ | ⟨HQ,hq⟩ <;> cases f <;> cases l
 all_goals
  have HB:b=true∨b=false:=by cases b <;> simp
  unfold followsB at hb
  first
   | (have e : b = false := by
        rw[hb];try have HP:=HP.out
        try have HQ:=HQ.out
        simp <;> omega
      rw[e];clear e hb HB)
   | (have e : b = true := by
        rw[hb];try have HP:=HP.out
        try have HQ:=HQ.out
        simp <;> omega
      rw[e];clear e hb HB)
  go_enter Tryz.func17,Tryz.ntmps17
  go_wp2
  all_goals first
   | (exfalso;have HQ:=HQ.out;omega)
   | (exfalso;simp_all;done)
   | (go_ret;exact⟨rfl,B0⟩)
end Go.Proofs.YtcoahmldmodmlaaGreatDoor
