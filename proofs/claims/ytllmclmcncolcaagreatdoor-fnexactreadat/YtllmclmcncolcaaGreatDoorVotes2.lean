/-
 Texts that are laid as one: VotesS, VotesE, CertL, OpenC.
-/
import Derived.Test.YtllmclmcncolcaaGreatDoorVoteL
import Derived.Test.YtllmclmcncolcaaGreatDoorIListAll
import Derived.Laws.OwnMore
import Derived.Test.YtllmclmcncolcaaGreatDoorOpenV
import Derived.Deep.SlicePairs
import Derived.Lib.SmallJoins
namespace Go.Proofs.YtllmclmcncolcaaGreatDoor
open Go.RowKit
set_option linter.unusedVariables false
structure VoteV where
 nd:Int
 i:Int
 os:List (List UInt8)
 ps:List (List UInt8)
def IsVotes (w:World) (a:Option Addr) (vs:List VoteV):Prop :=
 vs=[]∨∃ b off,a=some ⟨b,off,none⟩∧∀ j (h:j<vs.length),∃ ao co ap cp,w.cell? ⟨b,off+j*4,none⟩=some (.int .i64 vs[j].nd)∧w.cell? ⟨b,off+j*4+1,none⟩=some (.int .i64 vs[j].i)∧w.cell? ⟨b,off+j*4+2,none⟩=some (.slice ao vs[j].os.length co)∧w.cell? ⟨b,off+j*4+3,none⟩=some (.slice ap vs[j].ps.length cp)∧IsStrs w ao vs[j].os∧IsStrs w ap vs[j].ps
theorem IsVotes.later {w w':World} {a:Option Addr} {vs:List VoteV} (h:IsVotes w a vs) (hb:Below w.heap.size w w'):IsVotes w' a vs:=by
 rcases h with h | ⟨b,off,h1,h2⟩
 · exact .inl h
 · refine .inr ⟨b,off,h1,fun j hj=>?_⟩
   obtain⟨ao,co,ap,cp,c0,c1,c2,c3,s1,s2⟩:=h2 j hj
   have hl:=World.block_lt_of_cell? w _ c0
   exact⟨ao,co,ap,cp,(hb.cell (p:=⟨b,off+j*4,none⟩) hl).trans c0,(hb.cell (p:=⟨b,off+j*4+1,none⟩) hl).trans c1,(hb.cell (p:=⟨b,off+j*4+2,none⟩) hl).trans c2,(hb.cell (p:=⟨b,off+j*4+3,none⟩) hl).trans c3,strs_later s1 hb,strs_later s2 hb⟩
def sizeV (v:VoteV):Nat:=v.os.length+v.os.flatten.length+v.ps.length+v.ps.flatten.length
def sizeVs (vs:List VoteV):Nat:=(vs.map sizeV).sum
theorem sizeVs_take (vs:List VoteV) (j:Nat) (h:j<vs.length):sizeVs (vs.take (j+1))=sizeVs (vs.take j)+sizeV vs[j]:=by
 rw[List.take_succ_eq_append_getElem h,sizeVs,sizeVs,List.map_append,List.sum_append];simp
theorem sizeVs_at (vs:List VoteV) (j:Nat) (h:j<vs.length):sizeV vs[j]≤sizeVs vs:=by
 have:∀ (l:List VoteV) (v:VoteV),v∈l→sizeV v≤sizeVs l:=fun l=>by
  induction l with
  | nil=>simp
  | cons x r ih =>
    intro v hv
    rcases List.mem_cons.1 hv with rfl | h1
    · simp[sizeVs]
    · have:=ih v h1;simp only[sizeVs,List.map_cons,List.sum_cons] at this ⊢;omega
 exact this vs _ (List.getElem_mem h)
def bigV (v:VoteV):Prop:=v.os.length≤9223372036854775807∧v.ps.length≤9223372036854775807∧(∀ l∈v.os,l.length≤9223372036854775807)∧(∀ l∈v.ps,l.length≤9223372036854775807)
set_option maxRecDepth 100000 in
set_option maxHeartbeats 1000000 in
theorem szVoteS_gen (a : Option Addr) (cap : Nat) (vs : List VoteV) (L : Nat) (w : World) (hL : L ≤ 1048576) (hl : vs.length ≤ 9223372036854775807) (hm : ∀ v ∈ vs, bigV v) (hs : IsVotes w a vs) :
 Calls Tryz.prog 19 #[.slice a vs.length cap,.int .i64 (L:Int)] w fun e w'=>(e=.returned (.int .i64 (-1))∨(vs.length+sizeVs vs≤L∧∃ n:Nat,n≤L∧n+(vs.length+sizeVs vs)=L∧e=.returned (.int .i64 (n:Int))))∧Below w.heap.size w w':=by
 by_cases hb:vs.length≤L
 · have hb' : (vs.length : Int) ≤ (L : Int) := by omega
   have HVS:Hid (∀ W,Below w.heap.size w W→IsVotes W a vs):=fun W hW=>hs.later hW
   have HM:Hid (∀ v∈vs,bigV v):=hm
   clear hs hm
   go_enter Tryz.func19,Tryz.ntmps19
   go_wp2
   go_loopw [1,5] (fun v i wr=>∃ j q:Nat,j≤vs.length∧i=.int .i64 (j:Int)∧v=.int .i64 (q:Int)∧q+vs.length+sizeVs (vs.take j)=L∧Below w.heap.size w wr) (fun _ i _=>vs.length - (intOf i).toNat)
   case atStart=>exact⟨0,L - vs.length,Nat.zero_le _,rfl,by simp;omega,by simp[sizeVs];omega,Below.refl _ _⟩
   case round =>
    obtain⟨j,q,hj,rfl,rfl,hq,hbel⟩:=hrel
    have hsz:=hbel.size
    by_cases hlt:j<vs.length
    · obtain⟨b,off,rfl,hc⟩:∃ b off,a=some ⟨b,off,none⟩∧∀ j (h:j<vs.length),∃ ao co ap cp,wr.cell? ⟨b,off+j*4,none⟩=some (.int .i64 vs[j].nd)∧wr.cell? ⟨b,off+j*4+1,none⟩=some (.int .i64 vs[j].i)∧wr.cell? ⟨b,off+j*4+2,none⟩=some (.slice ao vs[j].os.length co)∧wr.cell? ⟨b,off+j*4+3,none⟩=some (.slice ap vs[j].ps.length cp)∧IsStrs wr ao vs[j].os∧IsStrs wr ap vs[j].ps:=by
       rcases HVS.out wr hbel with h | h
       · rw[h] at hlt;simp at hlt
       · exact h
      obtain⟨ao,co,ap,cp,c0,c1,c2,c3,s1,s2⟩:=hc j hlt
      obtain⟨m1,m2,m3,m4⟩:=HM.out vs[j] (List.getElem_mem hlt)
      have HS:Hid (sizeVs (vs.take (j+1))=sizeVs (vs.take j)+sizeV vs[j]):=sizeVs_take vs j hlt
      have hj0:(0:Int)≤(j:Int):=by omega
      have hj1:(j:Int)<(vs.length:Int):=by omega
      have hqs:q≤1048576:=by omega
      have HQ:Hid (q+vs.length+sizeVs (vs.take j)=L):=hq
      obtain⟨⟨nd,i,os,ps⟩,hx⟩:∃ x,x=vs[j]:=⟨_,rfl⟩
      rw[←hx] at c0 c1 c2 c3 s1 s2 m1 m2 m3 m4 HS
      have K:=fun W (h1:IsStrs W ao os) (h2:IsStrs W ap ps)=>szVote_gen nd i ao ap co cp os ps q W hqs m1 m3 m2 m4 h1 h2
      simp only[sizeV] at HS c0 c1 c2 c3
      have I:Hid (IsStrs wr ao os∧IsStrs wr ap ps):=⟨s1,s2⟩
      clear hc hx hq m3 m4 s1 s2
      go_wp2_with fail
      refine (K _ I.out.1 I.out.2).mono ?_
      rintro e w1 ⟨he,b1⟩
      have B1:=hbel.trans (b1.mono hsz)
      clear K b1 hbel
      rcases he with rfl | ⟨hn,k,hk,hkk,rfl⟩
      · go_wp2
        go_ret
        exact⟨.inl rfl,B1⟩
      · have HK:Hid (k+vs.length+sizeVs (vs.take (j+1))=L):=by rw[Hid,HS.out];have:=HQ.out;omega
        clear hn hkk
        go_wp2
        go_roundw
        case rel=>exact⟨j+1,k,by omega,by go_num,rfl,HK.out,B1⟩
        case measure=>simp[intOf];omega
    · have hjl:j=vs.length:=by omega
      subst hjl
      have HQ:Hid (vs.length+sizeVs vs≤L∧q≤L∧q+(vs.length+sizeVs vs)=L):=by rw[Hid];rw[List.take_length] at hq;omega
      clear hq
      go_wp2
      go_ret
      exact⟨.inr ⟨HQ.out.1,q,HQ.out.2.1,HQ.out.2.2,rfl⟩,hbel⟩
 · have hb':¬ (vs.length:Int)≤(L:Int):=by omega
   clear hs hm
   go_enter Tryz.func19,Tryz.ntmps19
   go_wp2
   go_ret
   exact⟨.inl rfl,Below.refl _ _⟩
theorem hidOwn4 {w:World} {b e n:Nat} {v:Value} {xs:List Value} (h:w.ownsRow b e 4 v n xs):Hid (w.ownsRow b e 4 v n xs):=h
theorem own_lt4 {w:World} {b e n g m cap:Nat} {xs:List Value} (h:w.ownsRow b e 4 (.slice (some ⟨g,0,none⟩) m cap) n xs):g<w.heap.size:=(h.lt g (by simp[Value.ownBlock])).2
theorem strs_store {w:World} {a:Option Addr} {ls:List (List UInt8)} {g j:Nat} (h:IsStrs w a ls) (hne:∀ b off,a=some ⟨b,off,none⟩→b≠g) (y:Value):IsStrs (w.setCell ⟨g,j,none⟩ y) a ls:=by
 rcases h with h | ⟨b,off,h1,h2⟩
 · exact .inl h
 · exact .inr ⟨b,off,h1,fun q hq=>(World.cell?_of_block (a:=⟨b,off+q,none⟩) (Below.heap_setCell _ _ _ _ (hne b off h1))).trans (h2 q hq)⟩
theorem infoVt:(Tryz.prog.info? 74).map (fun i=>(i.zero,i.size,i.bytes))=some (some (.agg #[.int .i64 0,.int .i64 0,.slice none 0 0,.slice none 0 0]),4,64):=by kernel_rfl
theorem keptV4 {w w':World} {b e n:Nat} {v:Value} {xs:List Value} (h:w.ownsRow b e 4 v n xs) (hb:Below w.heap.size w w'):w'.ownsRow b e 4 v n xs :=
 h.kept (row:=none) ⟨hb.os,hb.tape,hb.output,hb.size,fun k hk _=>hb.block k hk⟩ (by cases v.ownBlock with | none=>exact .inl rfl | some k=>exact .inr (by simp))
def smallV (v:VoteV):Prop:=v.os.length≤1048576∧v.ps.length≤1048576
set_option maxRecDepth 100000 in
set_option maxHeartbeats 400000 in
theorem eqS_is (ls : List (List UInt8)) (a a' : Option Addr) (c c' : Nat) (w : World) (hl : ls.length ≤ 16777216) (hu : IsStrs w a ls) (hv : IsStrs w a' ls) :
 Calls Tryz.prog 14 #[.slice a ls.length c,.slice a' ls.length c'] w fun e w'=>e=.returned (.bool true)∧∃ q,w'=w.drewN q:=by
 rcases hu with rfl | ⟨b,off,rfl,hc⟩
 · go_enter Tryz.func14,Tryz.ntmps14
   go_wp2
   refine wp_loop_rounds 1 ?_
   rw[rounds_succ]
   go_wp2
   go_ret
   exact⟨rfl,0,rfl⟩
 · rcases hv with rfl | ⟨b',off',rfl,hc'⟩
   · go_enter Tryz.func14,Tryz.ntmps14
     go_wp2
     refine wp_loop_rounds 1 ?_
     rw[rounds_succ]
     go_wp2
     go_ret
     exact⟨rfl,0,rfl⟩
   · go_enter Tryz.func14,Tryz.ntmps14
     go_wp2
     go_loopw [5] (fun i wr=>∃ j q:Nat,j≤ls.length∧i=.int .i64 (j:Int)∧wr=w.drewN q) (fun i _=>ls.length - (intOf i).toNat)
     case atStart=>exact⟨0,0,Nat.zero_le _,rfl,rfl⟩
     case round =>
      obtain⟨j,q,hj,rfl,rfl⟩:=hrel
      by_cases hlt:j<ls.length
      · have c1:=hc j hlt
        have c2:=hc' j hlt
        have hj0:(0:Int)≤(j:Int):=by omega
        have hj1:(j:Int)<(ls.length:Int):=by omega
        obtain⟨x,hx⟩:∃ x,x=ls[j]:=⟨_,rfl⟩
        rw[←hx] at c1 c2
        clear hc hc' hx
        go_wp2
        go_quiet (fail)
        go_wp2
        go_roundw
        case rel=>exact⟨j+1,_,by omega,by go_num,rfl⟩
        case measure=>simp[intOf];omega
      · go_wp2
        go_ret
        exact⟨rfl,q,rfl⟩
set_option maxRecDepth 100000 in
set_option maxHeartbeats 400000 in
theorem eqSig_is (i:Int) (u1 u2 v1 v2:Option Addr) (c1 c2 d1 d2:Nat) (os ps:List (List UInt8)) (w:World) (ho:os.length≤16777216) (hp:ps.length≤16777216) (h1:IsStrs w u1 os) (h2:IsStrs w u2 ps) (h3:IsStrs w v1 os) (h4:IsStrs w v2 ps) :
 Calls Tryz.prog 77 #[.agg #[.int .i64 i,.slice u1 os.length c1,.slice u2 ps.length c2],.agg #[.int .i64 i,.slice v1 os.length d1,.slice v2 ps.length d2]] w fun e w'=>e=.returned (.bool true)∧Below w.heap.size w w':=by
 have HH:Hid (IsStrs w u2 ps∧IsStrs w v2 ps):=⟨h2,h4⟩
 obtain⟨wa,hwa⟩:∃ wa,wa=(w.alloc (.cells #[.int .i64 i,.slice u1 os.length c1,.slice u2 ps.length c2] 72)).alloc (.cells #[.int .i64 i,.slice v1 os.length d1,.slice v2 ps.length d2] 72):=⟨_,rfl⟩
 have Ba:Below w.heap.size w wa:=by rw[hwa];exact ((Below.refl _ _).alloc (Nat.le_refl _) _).alloc (by simp) _
 have K1:=eqS_is os u1 v1 c1 d1 wa ho (strs_later h1 Ba) (strs_later h3 Ba)
 rw[hwa] at K1
 have e0:wa.heap[w.heap.size]? = some (.cells #[.int .i64 i,.slice u1 os.length c1,.slice u2 ps.length c2] 72 (0,0)):=by rw[hwa,Below.heap_alloc _ _ _ (by simp)];exact heap_alloc_new w _
 have e1:wa.heap[w.heap.size+1]? = some (.cells #[.int .i64 i,.slice v1 os.length d1,.slice v2 ps.length d2] 72 (0,0)):=by rw[hwa];exact new_atV _ (by simp) _
 clear h1 h2 h3 h4
 go_enter Tryz.func77,Tryz.ntmps77
 go_wp2_with fail
 refine K1.mono ?_
 rintro e w1 ⟨rfl,q,rfl⟩
 rw[←hwa]
 obtain⟨_,_,p2,_⟩:=tri_cells e0
 obtain⟨_,_,q2,_⟩:=tri_cells e1
 have Bq:Below w.heap.size w (wa.drewN q):=⟨Ba.os,Ba.tape,Ba.output,Ba.size,Ba.block⟩
 have K2:=eqS_is ps u2 v2 c2 d2 (wa.drewN q) hp (strs_later HH.out.1 Bq) (strs_later HH.out.2 Bq)
 clear K1 hwa e0 e1
 go_wp2_with fail
 refine K2.mono ?_
 rintro e w2 ⟨rfl,q3,rfl⟩
 clear K2
 go_wp2
 go_ret
 exact⟨rfl,Ba.os,Ba.tape,Ba.output,Ba.size,Ba.block⟩
set_option maxRecDepth 100000 in
set_option maxHeartbeats 400000 in
theorem eqVote_is (nd i:Int) (u1 u2 v1 v2:Option Addr) (c1 c2 d1 d2:Nat) (os ps:List (List UInt8)) (w:World) (ho:os.length≤16777216) (hp:ps.length≤16777216) (h1:IsStrs w u1 os) (h2:IsStrs w u2 ps) (h3:IsStrs w v1 os) (h4:IsStrs w v2 ps) :
 Calls Tryz.prog 52 #[.agg #[.int .i64 nd,.int .i64 i,.slice u1 os.length c1,.slice u2 ps.length c2],.agg #[.int .i64 nd,.int .i64 i,.slice v1 os.length d1,.slice v2 ps.length d2]] w fun e w'=>e=.returned (.bool true)∧Below w.heap.size w w':=by
 obtain⟨wa,hwa⟩:∃ wa,wa=(w.alloc (.cells #[.int .i64 nd,.int .i64 i,.slice u1 os.length c1,.slice u2 ps.length c2] 74)).alloc (.cells #[.int .i64 nd,.int .i64 i,.slice v1 os.length d1,.slice v2 ps.length d2] 74):=⟨_,rfl⟩
 have Ba:Below w.heap.size w wa:=by rw[hwa];exact ((Below.refl _ _).alloc (Nat.le_refl _) _).alloc (by simp) _
 have K0:=eqSig_is i u1 u2 v1 v2 c1 c2 d1 d2 os ps wa ho hp (strs_later h1 Ba) (strs_later h2 Ba) (strs_later h3 Ba) (strs_later h4 Ba)
 clear h1 h2 h3 h4
 rw[hwa] at K0
 go_enter Tryz.func52,Tryz.ntmps52
 go_wp2_with fail
 refine K0.mono ?_
 rintro e w1 ⟨rfl,b1⟩
 rw[←hwa] at b1
 have B1:=Ba.trans (b1.mono Ba.size)
 clear K0 b1
 go_wp2
 go_ret
 exact⟨rfl,B1⟩
set_option maxRecDepth 100000 in
set_option maxHeartbeats 2000000 in
theorem eqVoteS_is (vs:List VoteV) (a a':Option Addr) (c c':Nat) (w:World) (hl:vs.length≤16777216) (hm:∀ v∈vs,smallV v) (hu:IsVotes w a vs) (hv:IsVotes w a' vs) :
 Calls Tryz.prog 28 #[.slice a vs.length c,.slice a' vs.length c'] w fun e w'=>e=.returned (.bool true)∧Below w.heap.size w w':=by
 have HVS:Hid (∀ W,Below w.heap.size w W→IsVotes W a vs∧IsVotes W a' vs):=fun W hW=>⟨hu.later hW,hv.later hW⟩
 have HM:Hid (∀ v∈vs,smallV v):=hm
 clear hu hv hm
 go_enter Tryz.func28,Tryz.ntmps28
 go_wp2
 go_loopw [5] (fun i wr=>∃ j:Nat,j≤vs.length∧i=.int .i64 (j:Int)∧Below w.heap.size w wr) (fun i _=>vs.length - (intOf i).toNat)
 case atStart=>exact⟨0,Nat.zero_le _,rfl,Below.refl _ _⟩
 case round =>
  obtain⟨j,hj,rfl,hbel⟩:=hrel
  have hsz:=hbel.size
  by_cases hlt:j<vs.length
  · obtain⟨b,off,rfl,hc⟩:∃ b off,a=some ⟨b,off,none⟩∧∀ j (h:j<vs.length),∃ ao co ap cp,wr.cell? ⟨b,off+j*4,none⟩=some (.int .i64 vs[j].nd)∧wr.cell? ⟨b,off+j*4+1,none⟩=some (.int .i64 vs[j].i)∧wr.cell? ⟨b,off+j*4+2,none⟩=some (.slice ao vs[j].os.length co)∧wr.cell? ⟨b,off+j*4+3,none⟩=some (.slice ap vs[j].ps.length cp)∧IsStrs wr ao vs[j].os∧IsStrs wr ap vs[j].ps:=by
     rcases (HVS.out wr hbel).1 with h | h
     · rw[h] at hlt;simp at hlt
     · exact h
    obtain⟨b',off',rfl,hc'⟩:∃ b' off',a'=some ⟨b',off',none⟩∧∀ j (h:j<vs.length),∃ ao co ap cp,wr.cell? ⟨b',off'+j*4,none⟩=some (.int .i64 vs[j].nd)∧wr.cell? ⟨b',off'+j*4+1,none⟩=some (.int .i64 vs[j].i)∧wr.cell? ⟨b',off'+j*4+2,none⟩=some (.slice ao vs[j].os.length co)∧wr.cell? ⟨b',off'+j*4+3,none⟩=some (.slice ap vs[j].ps.length cp)∧IsStrs wr ao vs[j].os∧IsStrs wr ap vs[j].ps:=by
     rcases (HVS.out wr hbel).2 with h | h
     · rw[h] at hlt;simp at hlt
     · exact h
    obtain⟨u1,c1,u2,c2,x0,x1,x2,x3,s1,s2⟩:=hc j hlt
    obtain⟨v1,d1,v2,d2,y0,y1,y2,y3,r1,r2⟩:=hc' j hlt
    obtain⟨m1,m2⟩:=HM.out vs[j] (List.getElem_mem hlt)
    have hj0:(0:Int)≤(j:Int):=by omega
    have hj1:(j:Int)<(vs.length:Int):=by omega
    obtain⟨⟨nd,i,os,ps⟩,hx⟩:∃ x,x=vs[j]:=⟨_,rfl⟩
    rw[←hx] at x0 x1 x2 x3 y0 y1 y2 y3 s1 s2 r1 r2 m1 m2
    simp only at x0 x1 x2 x3 y0 y1 y2 y3 m1 m2
    have hd:Below wr.heap.size wr wr.drew:=⟨rfl,rfl,rfl,Nat.le_refl _,fun _ _=>rfl⟩
    have K:=eqVote_is nd i u1 u2 v1 v2 c1 c2 d1 d2 os ps wr.drew (by omega) (by omega) (strs_later s1 hd) (strs_later s2 hd) (strs_later r1 hd) (strs_later r2 hd)
    have SX:Hid (wr.cell? ⟨b,off+j*4,none⟩=some (.int .i64 nd)∧wr.cell? ⟨b,off+j*4+1,none⟩=some (.int .i64 i)∧wr.cell? ⟨b,off+j*4+2,none⟩=some (.slice u1 os.length c1)∧wr.cell? ⟨b,off+j*4+3,none⟩=some (.slice u2 ps.length c2)∧wr.cell? ⟨b',off'+j*4,none⟩=some (.int .i64 nd)∧wr.cell? ⟨b',off'+j*4+1,none⟩=some (.int .i64 i)∧wr.cell? ⟨b',off'+j*4+2,none⟩=some (.slice v1 os.length d1)∧wr.cell? ⟨b',off'+j*4+3,none⟩=some (.slice v2 ps.length d2)):=⟨x0,x1,x2,x3,y0,y1,y2,y3⟩
    have hbl:=World.block_lt_of_cell? wr _ x0
    have hbl2:=World.block_lt_of_cell? wr _ y0
    clear hc hc' hx s1 s2 r1 r2 hd
    go_wp2_with fail
    go_region_held3 (fun w'=>w'.cell? ⟨b,off+j*4,none⟩=some (.int .i64 nd)∧w'.cell? ⟨b,off+j*4+1,none⟩=some (.int .i64 i)∧w'.cell? ⟨b,off+j*4+2,none⟩=some (.slice u1 os.length c1)∧w'.cell? ⟨b,off+j*4+3,none⟩=some (.slice u2 ps.length c2)∧w'.cell? ⟨b',off'+j*4,none⟩=some (.int .i64 nd)∧w'.cell? ⟨b',off'+j*4+1,none⟩=some (.int .i64 i)∧w'.cell? ⟨b',off'+j*4+2,none⟩=some (.slice v1 os.length d1)∧w'.cell? ⟨b',off'+j*4+3,none⟩=some (.slice v2 ps.length d2))
     (first | exact S2.out | exact SX.out)
     (first
      | (go_at_call 52
         refine K.mono ?_
         rintro e w2 ⟨rfl,b2⟩
         have b2':Below wr.heap.size wr w2:=⟨b2.os,b2.tape,b2.output,b2.size,b2.block⟩
         have B2:=hbel.trans (b2'.mono hsz)
         have S2:Hid (w2.cell? ⟨b,off+j*4,none⟩=some (.int .i64 nd)∧w2.cell? ⟨b,off+j*4+1,none⟩=some (.int .i64 i)∧w2.cell? ⟨b,off+j*4+2,none⟩=some (.slice u1 os.length c1)∧w2.cell? ⟨b,off+j*4+3,none⟩=some (.slice u2 ps.length c2)∧w2.cell? ⟨b',off'+j*4,none⟩=some (.int .i64 nd)∧w2.cell? ⟨b',off'+j*4+1,none⟩=some (.int .i64 i)∧w2.cell? ⟨b',off'+j*4+2,none⟩=some (.slice v1 os.length d1)∧w2.cell? ⟨b',off'+j*4+3,none⟩=some (.slice v2 ps.length d2)):=⟨(b2'.cell (p:=⟨b,off+j*4,none⟩) hbl).trans SX.out.1,(b2'.cell (p:=⟨b,off+j*4+1,none⟩) hbl).trans SX.out.2.1,(b2'.cell (p:=⟨b,off+j*4+2,none⟩) hbl).trans SX.out.2.2.1,(b2'.cell (p:=⟨b,off+j*4+3,none⟩) hbl).trans SX.out.2.2.2.1,(b2'.cell (p:=⟨b',off'+j*4,none⟩) hbl2).trans SX.out.2.2.2.2.1,(b2'.cell (p:=⟨b',off'+j*4+1,none⟩) hbl2).trans SX.out.2.2.2.2.2.1,(b2'.cell (p:=⟨b',off'+j*4+2,none⟩) hbl2).trans SX.out.2.2.2.2.2.2.1,(b2'.cell (p:=⟨b',off'+j*4+3,none⟩) hbl2).trans SX.out.2.2.2.2.2.2.2⟩
         clear b2 b2'))
    all_goals
     go_wp2
     go_roundw
     case rel=>exact⟨j+1,by omega,by go_num,B2⟩
     case measure=>simp[intOf];omega
  · go_wp2
    go_ret
    exact⟨rfl,hbel⟩
set_option maxRecDepth 100000 in
set_option maxHeartbeats 1000000 in
theorem szCert_gen (n:Int) (root:List UInt8) (a:Option Addr) (cb:Nat) (vs:List VoteV) (L:Nat) (w:World) (hL:L≤1048576) (hr:root.length≤9223372036854775807) (hl:vs.length≤9223372036854775807) (hm:∀ v∈vs,bigV v) (hs:IsVotes w a vs) :
 Calls Tryz.prog 5 #[.agg #[.int .i64 n,.string ⟨root.toArray⟩,.slice a vs.length cb],.int .i64 (L:Int)] w fun e w'=>(e=.returned (.int .i64 (-1))∨(root.length+(vs.length+sizeVs vs)≤L∧∃ k:Nat,k≤L∧k+(root.length+(vs.length+sizeVs vs))=L∧e=.returned (.int .i64 (k:Int))))∧Below w.heap.size w w':=by
 have B1:Below w.heap.size w (w.alloc (.cells #[.int .i64 n,.string ⟨root.toArray⟩,.slice a vs.length cb] 27)):=(Below.refl _ _).alloc (Nat.le_refl _) _
 by_cases hb:root.length≤L
 · have hb':(root.length:Int)≤(L:Int):=by omega
   obtain⟨m,hmd⟩:∃ m:Nat,m+root.length=L:=⟨L - root.length,by omega⟩
   have e1:(L:Int) - (root.length:Int)=(m:Int):=by omega
   have K1:=szVoteS_gen a cb vs m (w.alloc (.cells #[.int .i64 n,.string ⟨root.toArray⟩,.slice a vs.length cb] 27)) (by omega) hl hm (hs.later B1)
   clear hs hm
   go_enter Tryz.func5,Tryz.ntmps5
   go_wp2_with fail
   refine K1.mono ?_
   rintro e w1 ⟨he,b1⟩
   have B2:=B1.trans (b1.mono (by simp))
   clear K1 b1
   rcases he with rfl | ⟨hbb,k,hk,hkk,rfl⟩
   · go_wp2
     go_ret
     exact⟨.inl rfl,B2⟩
   · have HN:Hid (root.length+(vs.length+sizeVs vs)≤L∧k≤L∧k+(root.length+(vs.length+sizeVs vs))=L):=⟨by omega,by omega,by omega⟩
     clear hkk hbb e1
     go_wp2
     go_ret
     exact⟨.inr ⟨HN.out.1,k,HN.out.2.1,HN.out.2.2,rfl⟩,B2⟩
 · have hb':(L:Int) - (root.length:Int)<0:=by omega
   clear hs hm
   go_enter Tryz.func5,Tryz.ntmps5
   go_wp2
   go_ret
   exact⟨.inl rfl,B1⟩
set_option maxRecDepth 100000 in
set_option maxHeartbeats 1000000 in
theorem eqCert_is (n:Int) (root:List UInt8) (u v:Option Addr) (c d:Nat) (vs:List VoteV) (w:World) (hl:vs.length≤16777216) (hm:∀ v∈vs,smallV v) (h1:IsVotes w u vs) (h2:IsVotes w v vs) :
 Calls Tryz.prog 13 #[.agg #[.int .i64 n,.string ⟨root.toArray⟩,.slice u vs.length c],.agg #[.int .i64 n,.string ⟨root.toArray⟩,.slice v vs.length d]] w fun e w'=>e=.returned (.bool true)∧Below w.heap.size w w':=by
 obtain⟨wa,hwa⟩:∃ wa,wa=(w.alloc (.cells #[.int .i64 n,.string ⟨root.toArray⟩,.slice u vs.length c] 37)).alloc (.cells #[.int .i64 n,.string ⟨root.toArray⟩,.slice v vs.length d] 37):=⟨_,rfl⟩
 have Ba:Below w.heap.size w wa:=by rw[hwa];exact ((Below.refl _ _).alloc (Nat.le_refl _) _).alloc (by simp) _
 have K0:=eqVoteS_is vs u v c d wa hl hm (h1.later Ba) (h2.later Ba)
 clear h1 h2 hm
 rw[hwa] at K0
 go_enter Tryz.func13,Tryz.ntmps13
 go_wp2_with fail
 refine K0.mono ?_
 rintro e w1 ⟨rfl,b1⟩
 rw[←hwa] at b1
 have B1:=Ba.trans (b1.mono Ba.size)
 clear K0 b1
 go_wp2
 go_ret
 exact⟨rfl,B1⟩
def VotesFrom (w:World) (b0:Nat) (a:Option Addr) (vs:List VoteV):Prop:=∀ W:World,(∀ k,b0≤k→W.heap[k]? = w.heap[k]?)→IsVotes W a vs
theorem strs_block {w W:World} {g:Nat} {ls:List (List UInt8)} (h:IsStrs w (some ⟨g,0,none⟩) ls) (e:W.heap[g]? = w.heap[g]?):IsStrs W (some ⟨g,0,none⟩) ls:=by
 rcases h with h | ⟨b,off,h1,h2⟩
 · exact .inl h
 · cases h1
   exact .inr ⟨g,0,rfl,fun q hq=>(World.cell?_of_block (a:=⟨g,0+q,none⟩) e).trans (h2 q hq)⟩
def VoteRowF (w:World) (g:Nat) (vs:List VoteV) (xs:List Value) (j:Nat):Prop:=∀ q (h:q<vs.length),q<j→∃ g1 g2:Nat,g<g1∧g<g2∧xs[q*4]? = some (.int .i64 vs[q].nd)∧xs[q*4+1]? = some (.int .i64 vs[q].i)∧xs[q*4+2]? = some (.slice (some ⟨g1,0,none⟩) vs[q].os.length vs[q].os.length)∧xs[q*4+3]? = some (.slice (some ⟨g2,0,none⟩) vs[q].ps.length vs[q].ps.length)∧IsStrs w (some ⟨g1,0,none⟩) vs[q].os∧IsStrs w (some ⟨g2,0,none⟩) vs[q].ps
theorem voteRowF_step {w w':World} {g:Nat} {vs:List VoteV} {xs:List Value} {j g1 g2:Nat} (hx:xs.length=vs.length*4) (h:VoteRowF w g vs xs j) (hj:j<vs.length) (hb:Below w.heap.size w w') (n1:g<g1) (n2:g<g2) (i1:IsStrs w' (some ⟨g1,0,none⟩) vs[j].os) (i2:IsStrs w' (some ⟨g2,0,none⟩) vs[j].ps) (W:World) (hW:W=(((w'.setCell ⟨g,j*4,none⟩ (.int .i64 vs[j].nd)).setCell ⟨g,j*4+1,none⟩ (.int .i64 vs[j].i)).setCell ⟨g,j*4+2,none⟩ (.slice (some ⟨g1,0,none⟩) vs[j].os.length vs[j].os.length)).setCell ⟨g,j*4+3,none⟩ (.slice (some ⟨g2,0,none⟩) vs[j].ps.length vs[j].ps.length)) :
 VoteRowF W g vs ((((xs.set (j*4) (.int .i64 vs[j].nd)).set (j*4+1) (.int .i64 vs[j].i)).set (j*4+2) (.slice (some ⟨g1,0,none⟩) vs[j].os.length vs[j].os.length)).set (j*4+3) (.slice (some ⟨g2,0,none⟩) vs[j].ps.length vs[j].ps.length)) (j+1):=by
 subst hW
 have keep:∀ {b:Nat} {ls:List (List UInt8)},b≠g→IsStrs w' (some ⟨b,0,none⟩) ls→IsStrs ((((w'.setCell ⟨g,j*4,none⟩ (.int .i64 vs[j].nd)).setCell ⟨g,j*4+1,none⟩ (.int .i64 vs[j].i)).setCell ⟨g,j*4+2,none⟩ (.slice (some ⟨g1,0,none⟩) vs[j].os.length vs[j].os.length)).setCell ⟨g,j*4+3,none⟩ (.slice (some ⟨g2,0,none⟩) vs[j].ps.length vs[j].ps.length)) (some ⟨b,0,none⟩) ls:=fun hne hi =>
  have q:=fun b' off (e:some (⟨_,0,none⟩:Addr)=some ⟨b',off,none⟩)=>(by cases e;exact hne:b'≠g)
  strs_store (strs_store (strs_store (strs_store hi q _) q _) q _) q _
 intro q hq hqj
 by_cases e:q=j
 · subst e
   refine⟨g1,g2,n1,n2,?_,?_,?_,?_,keep (by omega) i1,keep (by omega) i2⟩ <;> simp[List.getElem?_set] <;> omega
 · obtain⟨h1,h2,m1,m2,c0,c1,c2,c3,s1,s2⟩:=h q hq (by omega)
   refine⟨h1,h2,m1,m2,?_,?_,?_,?_,keep (by omega) (strs_later s1 hb),keep (by omega) (strs_later s2 hb)⟩
   · rw[List.getElem?_set_ne (by omega),List.getElem?_set_ne (by omega),List.getElem?_set_ne (by omega),List.getElem?_set_ne (by omega)];exact c0
   · rw[List.getElem?_set_ne (by omega),List.getElem?_set_ne (by omega),List.getElem?_set_ne (by omega),List.getElem?_set_ne (by omega)];exact c1
   · rw[List.getElem?_set_ne (by omega),List.getElem?_set_ne (by omega),List.getElem?_set_ne (by omega),List.getElem?_set_ne (by omega)];exact c2
   · rw[List.getElem?_set_ne (by omega),List.getElem?_set_ne (by omega),List.getElem?_set_ne (by omega),List.getElem?_set_ne (by omega)];exact c3
set_option maxRecDepth 100000 in
set_option maxHeartbeats 2000000 in
theorem toVoteS_from (a:Option Addr) (cap:Nat) (vs:List VoteV) (w:World) (hl:vs.length≤1048576) (hm:∀ v∈vs,smallV v) (hs:IsVotes w a vs) :
 Calls Tryz.prog 24 #[.slice a vs.length cap] w fun e w'=>e=.returned (.slice (some ⟨w.heap.size,0,none⟩) vs.length vs.length)∧VotesFrom w' w.heap.size (some ⟨w.heap.size,0,none⟩) vs∧Below w.heap.size w w':=by
 obtain⟨i0,hi0,hz0,hz1,hz2⟩:=info_parts infoVt
 have HVS:Hid (∀ W,Below w.heap.size w W→IsVotes W a vs):=fun W hW=>hs.later hW
 have HM:Hid (∀ v∈vs,smallV v):=hm
 clear hs hm
 go_enter Tryz.func24,Tryz.ntmps24
 go_wp2_with (at_make;refine wpList_make_full _ rfl _ _ 35 rfl w.heap.size 74 i0 (.agg #[.int .i64 0,.int .i64 0,.slice none 0 0,.slice none 0 0]) 4 Tryz.underlying35 hi0 hz0 hz1 _ _ _ _ vs.length rfl rfl (by omega) (by omega) (by rw[hz2];omega) (by unfold maxLen;omega) (Nat.le_refl _) ?_;intro w0 hown0 hgrow0)
 have hb0:=(Below.refl w.heap.size w).grown hgrow0 (Nat.le_refl _) (by simp)
 have hs0:=hgrow0.size
 obtain⟨xs0,hxs0⟩:∃ xs:List Value,w0.ownsRow w.heap.size 74 4 (.slice (some ⟨w.heap.size,0,none⟩) vs.length vs.length) vs.length xs:=⟨_,hown0⟩
 have HX0:=hidOwn4 hxs0
 clear hown0 hgrow0 hxs0
 go_loopw [4] (fun i wr=>∃ j:Nat,∃ xs:List Value,j≤vs.length∧i=.int .i64 (j:Int)∧wr.ownsRow w.heap.size 74 4 (.slice (some ⟨w.heap.size,0,none⟩) vs.length vs.length) vs.length xs∧VoteRowF wr w.heap.size vs xs j∧Below w.heap.size w wr) (fun i _=>vs.length - (intOf i).toNat)
 case atStart=>exact⟨0,xs0,Nat.zero_le _,rfl,HX0.out,fun q hq h=>by omega,hb0⟩
 case round =>
  obtain⟨j,xs,hj,rfl,hown,hrow,hbel⟩:=hrel
  have hsz:=hbel.size
  by_cases hlt:j<vs.length
  · obtain⟨b,off,rfl,hc⟩:∃ b off,a=some ⟨b,off,none⟩∧∀ j (h:j<vs.length),∃ ao co ap cp,wr.cell? ⟨b,off+j*4,none⟩=some (.int .i64 vs[j].nd)∧wr.cell? ⟨b,off+j*4+1,none⟩=some (.int .i64 vs[j].i)∧wr.cell? ⟨b,off+j*4+2,none⟩=some (.slice ao vs[j].os.length co)∧wr.cell? ⟨b,off+j*4+3,none⟩=some (.slice ap vs[j].ps.length cp)∧IsStrs wr ao vs[j].os∧IsStrs wr ap vs[j].ps:=by
     rcases HVS.out wr hbel with h | h
     · rw[h] at hlt;simp at hlt
     · exact h
    obtain⟨ao,co,ap,cp,c0,c1,c2,c3,s1,s2⟩:=hc j hlt
    obtain⟨m1,m2⟩:=HM.out vs[j] (List.getElem_mem hlt)
    have hj0:(0:Int)≤(j:Int):=by omega
    have hj1:(j:Int)<(vs.length:Int):=by omega
    have HLEN:Hid (xs.length=vs.length*4):=hown.1
    have HOW:=hidOwn4 hown
    have HROW:Hid (VoteRowF wr w.heap.size vs xs j):=hrow
    have HSTEP:Hid (∀ (w1:World) (g1 g2:Nat),Below wr.heap.size wr w1→w.heap.size<g1→w.heap.size<g2→IsStrs w1 (some ⟨g1,0,none⟩) vs[j].os→IsStrs w1 (some ⟨g2,0,none⟩) vs[j].ps→∀ W,W=(((w1.setCell ⟨w.heap.size,j*4,none⟩ (.int .i64 vs[j].nd)).setCell ⟨w.heap.size,j*4+1,none⟩ (.int .i64 vs[j].i)).setCell ⟨w.heap.size,j*4+2,none⟩ (.slice (some ⟨g1,0,none⟩) vs[j].os.length vs[j].os.length)).setCell ⟨w.heap.size,j*4+3,none⟩ (.slice (some ⟨g2,0,none⟩) vs[j].ps.length vs[j].ps.length)→VoteRowF W w.heap.size vs ((((xs.set (j*4) (.int .i64 vs[j].nd)).set (j*4+1) (.int .i64 vs[j].i)).set (j*4+2) (.slice (some ⟨g1,0,none⟩) vs[j].os.length vs[j].os.length)).set (j*4+3) (.slice (some ⟨g2,0,none⟩) vs[j].ps.length vs[j].ps.length)) (j+1)):=fun w1 g1 g2 hb n1 n2 i1 i2 W hW=>voteRowF_step HLEN.out hrow hlt hb n1 n2 i1 i2 W hW
    obtain⟨⟨nd,i,os,ps⟩,hx⟩:∃ x,x=vs[j]:=⟨_,rfl⟩
    rw[←hx] at c0 c1 c2 c3 s1 s2 m1 m2 HSTEP
    simp only at c0 c1 c2 c3 m1 m2
    have K:=toVote_any nd i ao ap co cp os ps wr m1 m2 s1 s2
    have hgl:=own_lt4 hown
    clear hc hx hown hrow s1 s2 HX0 hb0
    go_wp2_with fail
    refine K.mono ?_
    rintro e w1 ⟨g1,g2,rfl,o1,o2,b1⟩
    have hO1:=keptV4 HOW.out b1
    have B1:=hbel.trans (b1.mono hsz)
    have n1:w.heap.size<g1:=by have:=own_base o1;omega
    have n2:w.heap.size<g2:=by have:=own_base o2;omega
    have R1:Hid (∀ W,W=_→VoteRowF W w.heap.size vs _ (j+1)):=HSTEP.out w1 g1 g2 b1 n1 n2 (isStrs_own o1).2.2 (isStrs_own o2).2.2
    obtain⟨y0,hy0⟩:∃ o,w1.cell? ⟨w.heap.size,j*4,none⟩=some o:=by rw[hO1.cellAt (j*4) (by omega)];exact⟨_,List.getElem?_eq_getElem (by rw[HLEN.out];omega)⟩
    obtain⟨y1,hy1⟩:∃ o,w1.cell? ⟨w.heap.size,j*4+1,none⟩=some o:=by rw[hO1.cellAt (j*4+1) (by omega)];exact⟨_,List.getElem?_eq_getElem (by rw[HLEN.out];omega)⟩
    obtain⟨y2,hy2⟩:∃ o,w1.cell? ⟨w.heap.size,j*4+2,none⟩=some o:=by rw[hO1.cellAt (j*4+2) (by omega)];exact⟨_,List.getElem?_eq_getElem (by rw[HLEN.out];omega)⟩
    obtain⟨y3,hy3⟩:∃ o,w1.cell? ⟨w.heap.size,j*4+3,none⟩=some o:=by rw[hO1.cellAt (j*4+3) (by omega)];exact⟨_,List.getElem?_eq_getElem (by rw[HLEN.out];omega)⟩
    have hf0:=hO1.frozenAt (j*4)
    have hf1:=hO1.frozenAt (j*4+1)
    have hf2:=hO1.frozenAt (j*4+2)
    have hf3:=hO1.frozenAt (j*4+3)
    have HST:=hidOwn4 ((((hO1.stored (j*4) (.int .i64 nd)).1.stored (j*4+1) (.int .i64 i)).1.stored (j*4+2) (.slice (some ⟨g1,0,none⟩) os.length os.length)).1.stored (j*4+3) (.slice (some ⟨g2,0,none⟩) ps.length ps.length)).1
    have HB2:Hid (Below w.heap.size w ((((w1.setCell ⟨w.heap.size,j*4,none⟩ (.int .i64 nd)).setCell ⟨w.heap.size,j*4+1,none⟩ (.int .i64 i)).setCell ⟨w.heap.size,j*4+2,none⟩ (.slice (some ⟨g1,0,none⟩) os.length os.length)).setCell ⟨w.heap.size,j*4+3,none⟩ (.slice (some ⟨g2,0,none⟩) ps.length ps.length))):=(((B1.setCell (Nat.le_refl _) _).setCell (Nat.le_refl _) _).setCell (Nat.le_refl _) _).setCell (Nat.le_refl _) _
    clear hO1 b1 o1 o2 K HOW HSTEP HROW c0 c1 c2 c3
    go_wp2
    go_roundw
    case rel=>exact⟨j+1,_,by omega,by go_num,HST.out,R1.out _ rfl,HB2.out⟩
    case measure=>simp[intOf];omega
  · have hjl:j=vs.length:=by omega
    subst hjl
    have HI:Hid (VotesFrom wr w.heap.size (some ⟨w.heap.size,0,none⟩) vs):=fun W hW=>.inr ⟨w.heap.size,0,rfl,fun q hq=>by
     obtain⟨g1,g2,m1,m2,d0,d1,d2,d3,s1,s2⟩:=hrow q hq hq
     have hb:∀ o,W.cell? ⟨w.heap.size,o,none⟩=wr.cell? ⟨w.heap.size,o,none⟩:=fun o=>World.cell?_of_block (a:=⟨w.heap.size,o,none⟩) (hW _ (Nat.le_refl _))
     refine⟨some ⟨g1,0,none⟩,vs[q].os.length,some ⟨g2,0,none⟩,vs[q].ps.length,?_,?_,?_,?_,strs_block s1 (hW g1 (by omega)),strs_block s2 (hW g2 (by omega))⟩
     · rw[hb,Nat.zero_add,hown.cellAt (q*4) (by omega)];exact d0
     · rw[hb,Nat.zero_add,hown.cellAt (q*4+1) (by omega)];exact d1
     · rw[hb,Nat.zero_add,hown.cellAt (q*4+2) (by omega)];exact d2
     · rw[hb,Nat.zero_add,hown.cellAt (q*4+3) (by omega)];exact d3⟩
    clear hown hrow HX0 hb0
    go_wp2
    go_ret
    exact⟨rfl,HI.out,hbel⟩
set_option maxRecDepth 100000 in
set_option maxHeartbeats 1000000 in
theorem toCert_any (n:Int) (root:List UInt8) (a:Option Addr) (cb:Nat) (vs:List VoteV) (w:World) (hl:vs.length≤1048576) (hm:∀ v∈vs,smallV v) (hs:IsVotes w a vs) :
 Calls Tryz.prog 9 #[.agg #[.int .i64 n,.string ⟨root.toArray⟩,.slice a vs.length cb]] w fun e w'=>∃ g:Nat,e=.returned (.agg #[.int .i64 n,.string ⟨root.toArray⟩,.slice (some ⟨g,0,none⟩) vs.length vs.length])∧IsVotes w' (some ⟨g,0,none⟩) vs∧Below w.heap.size w w':=by
 obtain⟨wa,hwa⟩:∃ wa,wa=((w.alloc (.cells #[.int .i64 n,.string ⟨root.toArray⟩,.slice a vs.length cb] 27)).alloc (.cells #[.int .i64 0,.string ⟨#[]⟩,.slice none 0 0] 37)).alloc (.cells #[.int .i64 n,.string ⟨root.toArray⟩,.slice none 0 0] 37):=⟨_,rfl⟩
 have Ba:Below w.heap.size w wa:=by rw[hwa];exact (((Below.refl _ _).alloc (Nat.le_refl _) _).alloc (by simp) _).alloc (by simp;omega) _
 have sa:wa.heap.size=w.heap.size+3:=by rw[hwa];simp
 have a1:wa.heap[w.heap.size+1]? = some (.cells #[.int .i64 0,.string ⟨#[]⟩,.slice none 0 0] 37 (0,0)):=by rw[hwa,Below.heap_alloc _ _ _ (by simp)];exact new_atV _ (by simp) _
 have a2:wa.heap[w.heap.size+2]? = some (.cells #[.int .i64 n,.string ⟨root.toArray⟩,.slice none 0 0] 37 (0,0)):=by rw[hwa];exact new_atV _ (by simp) _
 have K1:=toVoteS_from a cb vs wa hl hm (hs.later Ba)
 have HWA:Hid (wa=((w.alloc (.cells #[.int .i64 n,.string ⟨root.toArray⟩,.slice a vs.length cb] 27)).alloc (.cells #[.int .i64 0,.string ⟨#[]⟩,.slice none 0 0] 37)).alloc (.cells #[.int .i64 n,.string ⟨root.toArray⟩,.slice none 0 0] 37)):=hwa
 rw[sa] at K1
 clear hs hm hwa
 go_enter Tryz.func9,Tryz.ntmps9
 go_wp2_with fail
 rw[←HWA.out]
 refine K1.mono ?_
 rintro e w1 ⟨rfl,v1,b1'⟩
 have b1:Below wa.heap.size wa w1:=by rw[sa];exact b1'
 have B1:=Ba.trans (b1.mono (by omega))
 have e1:=(b1.block (w.heap.size+1) (by omega)).trans a1
 have e2:=(b1.block (w.heap.size+2) (by omega)).trans a2
 have V1:Hid (VotesFrom w1 (w.heap.size+3) (some ⟨w.heap.size+3,0,none⟩) vs):=v1
 obtain⟨p0,p1,p2,pf⟩:=tri_cells e2
 obtain⟨q0,q1,q2,qf⟩:=tri_cells e1
 have pf2:=pf 2
 have qf0:=qf 0
 have qf1:=qf 1
 have qf2:=qf 2
 clear K1 a1 a2 b1 b1' Ba v1 sa pf qf HWA
 go_wp2
 have y1:(w1.setCell ⟨w.heap.size+1+1,2,none⟩ (.slice (some ⟨w.heap.size+3,0,none⟩) vs.length vs.length)).heap[w.heap.size+1]? = _:=(Below.heap_setCell _ _ _ _ (by simp)).trans e1
 have y5:=tri_set (j:=2) (y:=(.slice (some ⟨w.heap.size+3,0,none⟩) vs.length vs.length)) (tri_set (j:=1) (y:=.string ⟨root.toArray⟩) (tri_set (j:=0) (y:=.int .i64 n) y1))
 exact bodyPost_ret (v:=.agg #[.int .i64 n,.string ⟨root.toArray⟩,.slice (some ⟨w.heap.size+3,0,none⟩) vs.length vs.length]) (results_cell_row rfl _ _ (w.heap.size+1) 37 _ (0,0) _ rfl y5 Tryz.underlying37 rfl (by kernel_rfl)) rfl ⟨w.heap.size+3,rfl,V1.out _ (fun k hk=>(Below.heap_setCell _ _ _ _ (by simp;omega)).trans ((Below.heap_setCell _ _ _ _ (by simp;omega)).trans ((Below.heap_setCell _ _ _ _ (by simp;omega)).trans (Below.heap_setCell _ _ _ _ (by simp;omega))))),(((B1.setCell (by simp;omega) _).setCell (by simp) _).setCell (by simp) _).setCell (by simp) _⟩
open Go.ChangeShapes Go.WideShapes Go.ChangeAt Go.RowKit
set_option maxRecDepth 100000 in
theorem votes_of {H : Type} {enc : TypeId × Value → H} {W : World} {fuel : Nat} {u : Value} {y : DataW H × List MemPlace} (hf : DataW.trod enc Tryz.prog W 0 (fun _ => true) true fuel 25 [u] = some y) :
 ∃ (a:Option Addr) (vs:List VoteV) (cap:Nat),u=.slice a vs.length cap∧(∀ v∈vs,bigV v)∧IsVotes W a vs∧vs.length≤9223372036854775807:=by
 rcases Go.Deep.open_slice Tryz.underlying25 hf with ⟨hcs,_⟩ | ⟨a,len,cap,m,n,D,Pl,hcs,_,hl,hm,hmm,_,hx⟩
 · simp at hcs
   exact⟨none,[],0,hcs,by simp,.inl rfl,by simp⟩
 · simp at hcs
   unfold maxLen at hm
   simp only[if_true] at hmm
   have ce:Tryz.prog.cellsOf 69=4:=by kernel_rfl
   have c1:Tryz.prog.cellsOf 2=1:=by kernel_rfl
   have c3:Tryz.prog.cellsOf 67=3:=by kernel_rfl
   have cs1:Tryz.prog.cellsOf 22=1:=by kernel_rfl
   have each : ∀ i, ∃ q : VoteV, i < len → (∃ ao co ap cp, W.cell? (a.add (i * 4)) = some (.int .i64 q.nd) ∧ W.cell? (a.add (i * 4 + 1)) = some (.int .i64 q.i) ∧ W.cell? (a.add (i * 4 + 2)) = some (.slice ao q.os.length co) ∧ W.cell? (a.add (i * 4 + 3)) = some (.slice ap q.ps.length cp) ∧ IsStrs W ao q.os ∧ IsStrs W ap q.ps) ∧ bigV q := by
    intro i
    by_cases hi:i<len
    · obtain⟨cs',h1,h2⟩:=hx i (by omega)
      rw[ce] at h1
      obtain⟨_,hlen,hcell⟩:=World.cells?_some h1
      match cs',hlen with
      | [v0, v1, v2, v3], _ =>
        obtain⟨y0,y1,n,_,_,h0,h3⟩:=trod_struct2 Tryz.underlying69 h2
        simp[c1,c3] at h0 h3
        obtain⟨z0,z1,z2,m,_,_,g0,g1,g2⟩:=Go.Deep.trod_struct3 Tryz.underlying67 h3
        simp[c1,cs1] at g0 g1 g2
        have e0:=hcell 0 (by omega)
        have e1:=hcell 1 (by omega)
        have e2:=hcell 2 (by omega)
        have e3:=hcell 3 (by omega)
        rw[Go.Deep.add_add] at e0 e1 e2 e3
        obtain⟨nd,rfl⟩:=int_of h0
        obtain⟨i',rfl⟩:=int_of g0
        obtain⟨ao,os,co,rfl,m1,s1,l1⟩:=strs_of g1
        obtain⟨ap,ps,cp,rfl,m2,s2,l2⟩:=strs_of g2
        exact⟨⟨nd,i',os,ps⟩,fun _=>⟨⟨ao,co,ap,cp,by simpa using e0,by simpa using e1,by simpa using e2,by simpa using e3,s1,s2⟩,l1,l2,m1,m2⟩⟩
    · exact⟨⟨0,0,[],[]⟩,fun h=>absurd h hi⟩
   obtain⟨q,hq⟩:=Classical.skolem.1 each
   refine⟨some a,(List.range len).map q,cap,by rw[hcs];simp,?_,?_,by simp;omega⟩
   · intro p hp
     simp only[List.mem_map,List.mem_range] at hp
     obtain⟨i,hi,rfl⟩:=hp
     exact (hq i hi).2
   · by_cases h0:len=0
     · exact .inl (by simp[h0])
     · obtain⟨b,off,spot⟩:=a
       obtain⟨_,_,_,_,hc,_⟩:=(hq 0 (by omega)).1
       have hspot:spot=none:=by simpa [Addr.add] using World.cell?_spot hc
       subst hspot
       refine .inr ⟨b,off,rfl,fun j hj=>?_⟩
       simp at hj
       have hcj:=(hq j hj).1
       have e1:(⟨b,off,none⟩:Addr).add (j*4)=⟨b,off+j*4,none⟩:=by simp[Addr.add]
       have e2:(⟨b,off,none⟩:Addr).add (j*4+1)=⟨b,off+j*4+1,none⟩:=by simp[Addr.add,Nat.add_assoc]
       have e3:(⟨b,off,none⟩:Addr).add (j*4+2)=⟨b,off+j*4+2,none⟩:=by simp[Addr.add,Nat.add_assoc]
       have e4:(⟨b,off,none⟩:Addr).add (j*4+3)=⟨b,off+j*4+3,none⟩:=by simp[Addr.add,Nat.add_assoc]
       rw[e1,e2,e3,e4] at hcj
       simp only[List.getElem_map,List.getElem_range]
       exact hcj
set_option maxRecDepth 100000 in
theorem cert_of {H:Type} {enc:TypeId × Value→H} {W:World} {r:Reach} {b0:Nat} {v:Value} {d:DataW H} {p:List MemPlace} (hv:Value.okWide Tryz.prog W r b0 27 v) (h:DataW.Trod enc Tryz.prog W 0 (fun _=>true) true 27 v d p) :
 ∃ (n:Int) (root:List UInt8) (a:Option Addr) (cap:Nat) (vs:List VoteV),v=.agg #[.int .i64 n,.string ⟨root.toArray⟩,.slice a vs.length cap]∧root.length≤9223372036854775807∧IsVotes W a vs∧vs.length≤9223372036854775807∧(∀ v∈vs,bigV v):=by
 obtain⟨u0,u1,u2,y0,y1,y2,n,rfl,_,_,t0,t1,t2⟩:=Go.Joins.open_agg3 Tryz.underlying27 (by kernel_rfl) (by kernel_rfl) hv h
 obtain⟨c,hc,_,_⟩:=DataW.trod_int Tryz.underlying2 t0
 obtain⟨s0,hs0,_,w0⟩:=DataW.trod_string Tryz.underlying9 t1
 obtain⟨a,vs,cap,rfl,m2,i2,l2⟩:=votes_of t2
 simp at hc hs0
 subst hc hs0
 unfold maxLen at w0
 exact⟨c,s0.data.toList,a,cap,vs,by simp,by simp only[Array.length_toList];exact w0,i2,l2,m2⟩
end Go.Proofs.YtllmclmcncolcaaGreatDoor
