import Derived.Test.YtahocpjieffbaaaGreatDoorStrsAll
import Derived.Test.YtahocpjieffbaaaGreatDoorINodes
import Derived.Lib.SmallJoins
import Derived.ProofKit
import Derived.SliceStrings
import Derived.Test.YtahocpjieffbaaaGreatDoorMathRs
import Derived.Test.YtahocpjieffbaaaGreatDoorIItems2
import Derived.Test.YtahocpjieffbaaaGreatDoorSTakes
import Derived.Test.YtahocpjieffbaaaGreatDoorIListAll
namespace Go.Proofs.YtahocpjieffbaaaGreatDoor
open Go.RowKit
set_option linter.unusedVariables false
open Go.ChangeShapes Go.WideShapes Go.ChangeAt Go.RowKit
theorem quad_set {w:World} {b j:Nat} {u v x y z:Value} {t:TypeId} (h:w.heap[b]? = some (.cells #[u,v,x,y] t (0,0))):(w.setCell ⟨b,j,none⟩ z).heap[b]? = some (.cells (#[u,v,x,y].setIfInBounds j z) t (0,0)):=by
 have hlt:=lt_of_block h
 have h':w.heap[b]=.cells #[u,v,x,y] t (0,0):=by simpa [Array.getElem?_eq_getElem hlt] using h
 show (w.heap.modify b _)[b]? = _
 rw[Array.getElem?_eq_getElem (by simpa using hlt),Array.getElem_modify_self,h']
 rfl
theorem strsN_of {H:Type} {enc:TypeId × Value→H} {W:World} {fuel:Nat} {u:Value} {y:DataW H × List MemPlace} (hf:DataW.trod enc Tryz.prog W 0 (fun _=>true) true fuel 96 [u]=some y) :
 ∃ (a:Option Addr) (ls:List (List UInt8)) (cap:Nat),u=.slice a ls.length cap∧(∀ l∈ls,l.length≤9223372036854775807)∧IsStrs W a ls∧ls.length≤9223372036854775807:=by
 rcases open_strings Tryz.underlying96 Tryz.underlying9 (by kernel_rfl) hf with ⟨hcs,_⟩ | ⟨x,l,c,ss,hcs,_,hl,hm,hz,_,hcell,hwz⟩
 · simp at hcs
   exact⟨none,[],0,hcs,by simp,.inl rfl,by simp⟩
 · simp at hcs
   unfold maxLen at hm
   have hz':ss.length=c:=by simpa using hz
   refine⟨some x,(ss.take l).map (·.data.toList),c,by rw[hcs];simp;omega,?_,?_,by simp;omega⟩
   · intro l hlm
     simp only[List.mem_map] at hlm
     obtain⟨s,hs1,rfl⟩:=hlm
     have:=hwz s (List.mem_of_mem_take hs1)
     unfold maxLen at this
     rw[Array.length_toList];exact this
   · by_cases h0:l=0
     · exact .inl (by simp[h0])
     · obtain⟨b,off,spot⟩:=x
       have hc:=hcell 0 (by omega)
       have hspot:spot=none:=by simpa [Addr.add] using World.cell?_spot hc
       subst hspot
       refine .inr ⟨b,off,rfl,fun j hj=>?_⟩
       simp at hj
       have hjs:j<ss.length:=by omega
       have hcj:=hcell j hjs
       have e1:(⟨b,off,none⟩:Addr).add j=⟨b,off+j,none⟩:=by simp[Addr.add]
       rw[e1,List.getD_eq_getElem?_getD,List.getElem?_eq_getElem hjs,Option.getD_some] at hcj
       rw[hcj]
       simp only[List.getElem_map,List.getElem_take]
def TextsPost (w:World) (o:Option (List (List UInt8))) (e:Ending) (w':World):Prop:=match o with
 | none=>e=.returned (.tuple #[.slice none 0 0,.bool false])∧Below w.heap.size w w'
 | some ts=>∃ (a:Option Addr) (c:Nat),e=.returned (.tuple #[.slice a ts.length c,.bool true])∧w'.ownsRow w.heap.size 9 1 (.slice a ts.length c) ts.length (scells ts)∧Below w.heap.size w w'∧ts.length≤c
theorem own_cap2 {w:World} {base e n:Nat} {a:Option Addr} {m c:Nat} {xs:List Value} (h:w.ownsRow base e 1 (.slice a m c) n xs):m=n∧n≤c:=by
 rcases h.2 with ⟨h',h0⟩ | ⟨g,cap',cur,h',hb,hg,hc,_⟩
 · cases h';omega
 · cases h';exact⟨rfl,hc⟩
set_option maxRecDepth 100000 in
set_option maxHeartbeats 1000000 in
theorem impl_texts (s : List UInt8) (w : World) (hl : s.length ≤ 1048576) :
 Calls Tryz.prog 83 #[.string ⟨s.toArray⟩] w fun e w'=>TextsPost w (textsL s) e w':=by
 obtain⟨i0,hi0,hz0,hz1,hz2⟩:=info_parts info9i
 have K:=impl_items s w hl
 cases hi:itemsL s with
 | none =>
   have e1:textsL s=none:=by simp only[textsL,hi]
   rw[e1]
   rw[hi] at K
   clear hi e1
   go_enter Tryz.func83,Tryz.ntmps83
   go_wp2_with fail
   refine K.mono ?_
   rintro e w1 ⟨rfl,b1⟩
   go_wp2
   go_ret2
   exact⟨rfl,b1⟩
 | some ls =>
   have hil:=items_len s ls hi
   have e1:textsL s=textsF ls:=by simp only[textsL,hi]
   rw[e1]
   rw[hi] at K
   have hml:∀ j (h:j<ls.length),ls[j].length≤1048576:=fun j h=>by have:=each_le ls j h;omega
   obtain⟨o,ho⟩:∃ o,o=textsF ls:=⟨_,rfl⟩
   have HO:Hid (o=textsF ls):=ho
   rw[←ho]
   clear hi e1 ho hil
   go_enter Tryz.func83,Tryz.ntmps83
   go_wp2_with fail
   refine K.mono ?_
   rintro e w1 ⟨v,rfl,o1,b1,hn⟩
   obtain⟨a1,m1,c1,rfl⟩:=own_slice o1
   obtain⟨rfl,_,is1⟩:=strs_own o1
   have hs1:=b1.size
   clear K o1
   go_wp2
   go_loopw [6,8,9,10,11,12,22] (fun v _ _ _ _ _ i wr=>∃ j c2:Nat,∃ a2:Option Addr,∃ ts:List (List UInt8),j≤ls.length∧i=.int .i64 (j:Int)∧v=.slice a2 j c2∧Hid (textsF (ls.take j)=some ts)∧wr.ownsRow w1.heap.size 9 1 (.slice a2 j c2) j (scells ts)∧Below w1.heap.size w1 wr) (fun _ _ _ _ _ _ i _=>ls.length - (intOf i).toNat)
   case atStart=>exact⟨0,0,none,[],Nat.zero_le _,rfl,rfl,by rw[Hid];rfl,World.ownsRow_nil _ _ _ _,Below.refl _ _⟩
   case round =>
    obtain⟨j,c2,a2,ts,hj,rfl,rfl,HT,hown,hbel⟩:=hrel
    have hsz:=hbel.size
    have hwb:Below w.heap.size w wr:=b1.trans (hbel.mono hs1)
    by_cases hlt:j<ls.length
    · obtain⟨g,of,hg,hc1⟩:∃ g of,a1=some ⟨g,of,none⟩∧wr.cell? ⟨g,of+j,none⟩=some (.string ⟨ls[j].toArray⟩):=by
       rcases strs_later is1 hbel with h | ⟨g,of,h,hc⟩
       · rw[h] at hlt;simp at hlt
       · exact⟨g,of,h,hc j hlt⟩
      subst hg
      have hxl:=hml j hlt
      have HN:Hid (textOf ls[j]=none→textsF ls=none):=fun h=>textsF_none ls j hlt h
      have HS:Hid (∀ t,textOf ls[j]=some t→textsF (ls.take (j+1))=some (ts ++ [t])):=fun t h=>textsF_take ls j hlt t ts HT.out h
      have hj0:(0:Int)≤(j:Int):=by omega
      have hj1:(j:Int)<(ls.length:Int):=by omega
      have hlow:∀ k,(Value.slice a2 j c2).ownBlock=some k→w1.heap.size≤k:=fun k hk=>(hown.lt k hk).1
      obtain⟨x,hx⟩:∃ x,x=ls[j]:=⟨_,rfl⟩
      rw[←hx] at hc1 hxl HN HS
      have H1:=fun W=>impl_take x W hxl
      have HW:Hid (wr.ownsRow w1.heap.size 9 1 (.slice a2 j c2) j (scells ts)):=hown
      clear hx hown hml
      cases ht:takeL x with
      | none =>
        rw[ht] at H1
        have HZ:Hid (o=none):=by rw[Hid,HO.out];exact HN.out (textOf_none x ht)
        clear ht
        go_wp2_with fail
        refine (H1 _).mono ?_
        rintro e w2 ⟨rfl,b2⟩
        have B2:=hwb.trans (b2.mono hwb.size)
        simp only[tkV]
        go_wp2
        go_ret2
        rw[HZ.out]
        exact⟨rfl,B2⟩
      | some q =>
        obtain⟨kd,bd,rest⟩:=q
        rw[ht] at H1
        rcases takeL_kind x kd bd rest ht with rfl | rfl
        · have HSS:Hid (textsF (ls.take (j+1))=some (ts ++ [bd])):=HS.out bd (textOf_some x bd rest ht)
          clear ht
          go_wp2_with fail
          refine (H1 _).mono ?_
          rintro e w2 ⟨rfl,b2⟩
          have hown2:=keptX HW.out b2
          have hbel2:=hbel.trans (b2.mono hsz)
          have hsz2:=hbel2.size
          simp only[tkV]
          clear HW b2 H1 hbel
          go_wp2_with (at_builtin;refine wpList_append_lies _ rfl _ _ 96 rfl w1.heap.size 9 i0 (.string ⟨#[]⟩) 1 16 Tryz.underlying96 hi0 hz0 hz1 hz2 rfl (by decide) (.slice a2 j c2) j _ rfl (hown2.alloc _) ⟨w2.heap.size,0,none⟩ 1 1 [.string ⟨bd.toArray⟩] rfl rfl (World.news_of_block (cs:=#[.string ⟨bd.toArray⟩]) (t:=9) (fr:=(0,0)) (heap_alloc_new w2 _)) (by simp[Value.oneCell']) (by omega) (by unfold maxLen;omega) (by omega) (by simp;omega) (w2.heap.size+1) (by simp) ?_;intro g2 cap2 w3 hown3 hgrow hat hlt3)
          have hbel3:Below w1.heap.size w1 w3:=(hbel2.alloc hsz2 _).grown hgrow (by simp;omega) hlow
          have HO3:Hid (w3.ownsRow w1.heap.size 9 1 (.slice (some ⟨g2,0,none⟩) (j+1) cap2) (j+1) (scells (ts ++ [bd]))):=by rw[Hid,scells_snoc];exact hown3
          clear hgrow hown3 hown2 hbel2
          go_roundw
          case rel=>exact⟨j+1,cap2,some ⟨g2,0,none⟩,ts ++ [bd],by omega,by go_num,rfl,HSS.out,HO3.out,hbel3⟩
          case measure=>simp[intOf];omega
        · have HZ:Hid (o=none):=by rw[Hid,HO.out];exact HN.out (textOf_list x bd rest ht)
          clear ht
          go_wp2_with fail
          refine (H1 _).mono ?_
          rintro e w2 ⟨rfl,b2⟩
          have B2:=hwb.trans (b2.mono hwb.size)
          simp only[tkV]
          go_wp2
          go_ret2
          rw[HZ.out]
          exact⟨rfl,B2⟩
    · have hjl:j=ls.length:=by omega
      subst hjl
      have HZ:Hid (o=some ts∧ts.length=ls.length):=by
       have h1:=HT.out
       rw[List.take_length] at h1
       exact⟨by rw[HO.out,h1],(textsF_each ls ts h1).1⟩
      have HW:Hid (wr.ownsRow w1.heap.size 9 1 (.slice a2 ls.length c2) ls.length (scells ts)):=hown
      clear hown is1 hml
      go_wp2
      go_ret2
      rw[HZ.out.1]
      have hw2:=HW.out.mono hs1
      rw[←HZ.out.2] at hw2
      exact⟨a2,c2,by rw[HZ.out.2];rfl,hw2,hwb,(own_cap2 hw2).2⟩
theorem four_set {w:World} {b:Nat} {u0 u1 u2 u3:Value} {t:TypeId} (z0 z1 z2 z3:Value) (h:w.heap[b]? = some (.cells #[u0,u1,u2,u3] t (0,0))) :
 ((((w.setCell ⟨b,0,none⟩ z0).setCell ⟨b,1,none⟩ z1).setCell ⟨b,2,none⟩ z2).setCell ⟨b,3,none⟩ z3).heap[b]? = some (.cells #[z0,z1,z2,z3] t (0,0)) :=
 quad_set (j:=3) (z:=z3) (quad_set (j:=2) (z:=z2) (quad_set (j:=1) (z:=z1) (quad_set (j:=0) (z:=z0) h)))
theorem fourS_below {B b:Nat} {w w':World} (h:Below B w w') (hb:B≤b) (z0 z1 z2 z3:Value):Below B w ((((w'.setCell ⟨b,0,none⟩ z0).setCell ⟨b,1,none⟩ z1).setCell ⟨b,2,none⟩ z2).setCell ⟨b,3,none⟩ z3) :=
 (((h.setCell hb _).setCell hb _).setCell hb _).setCell hb _
theorem four_own {w:World} {B e n b:Nat} {v:Value} {xs:List Value} (h:w.ownsRow B e 1 v n xs) (hb:v.ownBlock≠some b) (z0 z1 z2 z3:Value):((((w.setCell ⟨b,0,none⟩ z0).setCell ⟨b,1,none⟩ z1).setCell ⟨b,2,none⟩ z2).setCell ⟨b,3,none⟩ z3).ownsRow B e 1 v n xs :=
 ownsRow_setCell_other (ownsRow_setCell_other (ownsRow_setCell_other (ownsRow_setCell_other h hb _) hb _) hb _) hb _
theorem strs_at {w:World} {a:Option Addr} {ls:List (List UInt8)} (h:IsStrs w a ls) (j:Nat) (hj:j<ls.length):∃ b off,a=some ⟨b,off,none⟩∧∀ i,i<ls.length→w.cell? ⟨b,off+i,none⟩=some (.string ⟨(ls.getD i []).toArray⟩):=by
 rcases h with h | ⟨b,off,h,hc⟩
 · rw[h] at hj;simp at hj
 · refine⟨b,off,h,fun i hi=>?_⟩
   rw[hc i hi,List.getD_eq_getElem?_getD,List.getElem?_eq_getElem hi];rfl
theorem strs_take {w:World} {b off:Nat} {ls:List (List UInt8)} (h:IsStrs w (some ⟨b,off,none⟩) ls) (n:Nat):IsStrs w (some ⟨b,off,none⟩) (ls.take n):=by
 rcases h with rfl | ⟨b',off',he,hc⟩
 · exact .inl (by simp)
 · cases he
   refine .inr ⟨b,off,rfl,fun j hj=>?_⟩
   simp at hj
   rw[hc j (by omega)]
   simp
def NodePost (w:World) (n:NodeL) (e:Ending) (w':World):Prop :=
 ∃ (a:Option Addr) (m c:Nat),e=.returned (.agg #[.int .i64 n.k,.string ⟨n.p.toArray⟩,.slice a m c,.string ⟨n.v.toArray⟩])∧w'.ownsRow w.heap.size 9 1 (.slice a m c) n.ls.length (scells n.ls)∧Below w.heap.size w w'
set_option maxRecDepth 100000 in
set_option maxHeartbeats 2000000 in
theorem nodeOf_17 (b off cap:Nat) (ts:List (List UInt8)) (w:World) (h17:ts.length=17) (hcap:17≤cap) (hs:IsStrs w (some ⟨b,off,none⟩) ts) (hc16:w.cell? ⟨b,off+16,none⟩=some (.string ⟨(ts.getD 16 []).toArray⟩)) :
 Calls Tryz.prog 84 #[.slice (some ⟨b,off,none⟩) 17 cap] w fun e w'=>NodePost w ⟨3,[],ts.take 16,ts.getD 16 []⟩ e w':=by
 have B0:Below w.heap.size w (w.alloc (.cells #[.int .i64 0,.string ⟨#[]⟩,.slice none 0 0,.string ⟨#[]⟩] 98)):=(Below.refl _ _).alloc (Nat.le_refl _) _
 have HQ:Hid ((w.alloc (.cells #[.int .i64 0,.string ⟨#[]⟩,.slice none 0 0,.string ⟨#[]⟩] 98)).heap[w.heap.size]? = some (.cells #[.int .i64 0,.string ⟨#[]⟩,.slice none 0 0,.string ⟨#[]⟩] 98 (0,0))):=heap_alloc_new w _
 obtain⟨wx,hwx⟩:∃ wx,wx=w.alloc (.cells #[.int .i64 0,.string ⟨#[]⟩,.slice none 0 0,.string ⟨#[]⟩] 98):=⟨_,rfl⟩
 have hsx:wx.heap.size=w.heap.size+1:=by rw[hwx];simp
 have HWX:Hid (w.alloc (.cells #[.int .i64 0,.string ⟨#[]⟩,.slice none 0 0,.string ⟨#[]⟩] 98)=wx):=hwx.symm
 rw[←hwx] at HQ B0
 have BX:Hid (Below w.heap.size w wx):=B0
 have HSX:Hid (wx.heap.size=w.heap.size+1):=hsx
 have hlt16:(ts.take 16).length=16:=by rw[List.length_take,h17];rfl
 have KC:=cloneS_any b off cap (ts.take 16) wx.drew (by omega) (strs_take (strs_later hs (below_drewX B0)) 16)
 rw[hlt16] at KC
 obtain⟨x,hx⟩:∃ x,x=ts.getD 16 []:=⟨_,rfl⟩
 obtain⟨ks,hks⟩:∃ ks,ks=ts.take 16:=⟨_,rfl⟩
 rw[←hks] at KC hlt16
 rw[←hx] at hc16
 rw[←hx,←hks]
 have hbl:=World.block_lt_of_cell? w _ hc16
 have HBL:Hid (b<w.heap.size):=hbl
 have HK16:Hid (ks.length=16):=hlt16
 have c16:=(B0.cell (p:=⟨b,off+16,none⟩) hbl).trans hc16
 have HC16:Hid (w.cell? ⟨b,off+16,none⟩=some (.string ⟨x.toArray⟩)):=hc16
 have hcp:(16:Int)≤(cap:Int):=by omega
 clear hwx hsx hs hx hks B0 hlt16 h17 hbl hc16
 go_enter Tryz.func84,Tryz.ntmps84
 go_wp2_with fail
 rw[HWX.out]
 go_region_held3 (fun w'=>w'.cell? ⟨b,off+16,none⟩=some (.string ⟨x.toArray⟩))
  (first | exact S2.out | exact S1.out | exact c16)
  (first
   | (go_at_call 92
      refine KC.mono ?_
      rintro e w1 ⟨a1,m1,c1,rfl,o1,b1'⟩
      have b1:Below wx.heap.size wx w1:=below_undrew b1'
      have B1:Hid (Below w.heap.size w w1):=BX.out.trans (b1.mono BX.out.size)
      have S1:Hid (w1.cell? ⟨b,off+16,none⟩=some (.string ⟨x.toArray⟩)):=(B1.out.cell (p:=⟨b,off+16,none⟩) HBL.out).trans HC16.out
      have Q1:Hid (w1.heap[w.heap.size]? = some (.cells #[.int .i64 0,.string ⟨#[]⟩,.slice none 0 0,.string ⟨#[]⟩] 98 (0,0))):=(b1.block w.heap.size (by have:=HSX.out;omega)).trans HQ.out
      obtain⟨q0,q1,q2,q3,qf⟩:=quad_cells Q1.out
      have qf0:=qf 0
      have qf1:=qf 1
      have qf2:=qf 2
      have qf3:=qf 3
      have S2:Hid (((((w1.setCell ⟨w.heap.size,0,none⟩ (.int .i64 3)).setCell ⟨w.heap.size,1,none⟩ (.string ⟨#[]⟩)).setCell ⟨w.heap.size,2,none⟩ (.slice a1 m1 c1)).setCell ⟨w.heap.size,3,none⟩ (.string ⟨x.toArray⟩)).cell? ⟨b,off+16,none⟩=some (.string ⟨x.toArray⟩)):=((fourS_below B1.out (Nat.le_refl _) _ _ _ _).cell (p:=⟨b,off+16,none⟩) HBL.out).trans HC16.out
      have O1:=hidOwn (o1.mono (by show w.heap.size+1≤wx.heap.size;have:=HSX.out;omega))
      clear qf b1 b1' o1))
 all_goals
  go_wp2
  have y:=four_set (.int .i64 3) (.string ⟨#[]⟩) (.slice a1 m1 c1) (.string ⟨x.toArray⟩) Q1.out
  have hne:(Value.slice a1 m1 c1).ownBlock≠some w.heap.size:=fun h=>by have:=(O1.out.lt _ h).1;omega
  exact bodyPost_ret (v:=.agg #[.int .i64 3,.string ⟨#[]⟩,.slice a1 m1 c1,.string ⟨x.toArray⟩]) (results_cell_row rfl _ _ w.heap.size 98 _ (0,0) _ rfl y Tryz.underlying98 rfl (by kernel_rfl)) rfl ⟨a1,m1,c1,rfl,by show World.ownsRow _ _ _ _ _ ks.length (scells ks);rw[HK16.out];exact (four_own O1.out hne _ _ _ _).mono (by omega),fourS_below B1.out (Nat.le_refl _) _ _ _ _⟩
theorem zero_post (w w':World) (e:Ending) (he:e=.returned (.agg #[.int .i64 0,.string ⟨#[]⟩,.slice none 0 0,.string ⟨#[]⟩])) (hb:Below w.heap.size w w'):NodePost w zeroN e w' :=
 ⟨none,0,0,he,World.ownsRow_nil _ _ _ _,hb⟩
set_option maxRecDepth 100000 in
set_option maxHeartbeats 2000000 in
theorem nodeOf_no (a:Option Addr) (cap n:Nat) (w:World) (h17:¬ n=17) (h2:¬ n=2) (hn:n≤1048576) :
 Calls Tryz.prog 84 #[.slice a n cap] w fun e w'=>NodePost w zeroN e w':=by
 have B0:Below w.heap.size w (w.alloc (.cells #[.int .i64 0,.string ⟨#[]⟩,.slice none 0 0,.string ⟨#[]⟩] 98)):=(Below.refl _ _).alloc (Nat.le_refl _) _
 have HQ:Hid ((w.alloc (.cells #[.int .i64 0,.string ⟨#[]⟩,.slice none 0 0,.string ⟨#[]⟩] 98)).heap[w.heap.size]? = some (.cells #[.int .i64 0,.string ⟨#[]⟩,.slice none 0 0,.string ⟨#[]⟩] 98 (0,0))):=heap_alloc_new w _
 have BX:Hid (Below w.heap.size w (w.alloc (.cells #[.int .i64 0,.string ⟨#[]⟩,.slice none 0 0,.string ⟨#[]⟩] 98))):=B0
 have h17':¬ (n:Int)=17:=by omega
 have h2':¬ (n:Int)=2:=by omega
 have h17b:((n:Int) == 17)=false:=by rw[beq_eq_false_iff_ne];exact h17'
 have h2b:((n:Int) == 2)=false:=by rw[beq_eq_false_iff_ne];exact h2'
 clear B0 h17 h2
 go_enter Tryz.func84,Tryz.ntmps84
 go_wp2
 exact bodyPost_ret (v:=.agg #[.int .i64 0,.string ⟨#[]⟩,.slice none 0 0,.string ⟨#[]⟩]) (results_cell_row rfl _ _ w.heap.size 98 _ (0,0) _ rfl HQ.out Tryz.underlying98 rfl (by kernel_rfl)) rfl (zero_post _ _ _ rfl BX.out)
set_option maxRecDepth 100000 in
set_option maxHeartbeats 2000000 in
theorem nodeOf_2 (b off cap:Nat) (x t:List UInt8) (w:World) (hx:x.length≤60000) (hc0:w.cell? ⟨b,off,none⟩=some (.string ⟨x.toArray⟩)) (hc1:w.cell? ⟨b,off+1,none⟩=some (.string ⟨t.toArray⟩)) :
 Calls Tryz.prog 84 #[.slice (some ⟨b,off,none⟩) 2 cap] w fun e w'=>NodePost w (ofRead t (readI x)) e w':=by
 have B0:Below w.heap.size w (w.alloc (.cells #[.int .i64 0,.string ⟨#[]⟩,.slice none 0 0,.string ⟨#[]⟩] 98)):=(Below.refl _ _).alloc (Nat.le_refl _) _
 have HQ:Hid ((w.alloc (.cells #[.int .i64 0,.string ⟨#[]⟩,.slice none 0 0,.string ⟨#[]⟩] 98)).heap[w.heap.size]? = some (.cells #[.int .i64 0,.string ⟨#[]⟩,.slice none 0 0,.string ⟨#[]⟩] 98 (0,0))):=heap_alloc_new w _
 have BX:Hid (Below w.heap.size w (w.alloc (.cells #[.int .i64 0,.string ⟨#[]⟩,.slice none 0 0,.string ⟨#[]⟩] 98))):=B0
 have HL:Hid (w.heap.size<(w.alloc (.cells #[.int .i64 0,.string ⟨#[]⟩,.slice none 0 0,.string ⟨#[]⟩] 98)).heap.size):=by rw[Hid];simp
 have KR:=impl_readI x (w.alloc (.cells #[.int .i64 0,.string ⟨#[]⟩,.slice none 0 0,.string ⟨#[]⟩] 98)) hx
 have hbl:=World.block_lt_of_cell? w _ hc1
 have c0:=(B0.cell (p:=⟨b,off,none⟩) hbl).trans hc0
 have HC1:Hid (w.cell? ⟨b,off+1,none⟩=some (.string ⟨t.toArray⟩)∧b<w.heap.size):=⟨hc1,hbl⟩
 obtain⟨o,ho⟩:∃ o,o=readI x:=⟨_,rfl⟩
 rw[←ho] at KR ⊢
 clear B0 hc0 hc1 hbl ho
 cases o with
 | none =>
   go_enter Tryz.func84,Tryz.ntmps84
   go_wp2_with fail
   refine KR.mono ?_
   rintro e w1 ⟨rfl,b1⟩
   have B1:Hid (Below w.heap.size w w1):=BX.out.trans (b1.mono BX.out.size)
   have Q1:Hid (w1.heap[w.heap.size]? = some (.cells #[.int .i64 0,.string ⟨#[]⟩,.slice none 0 0,.string ⟨#[]⟩] 98 (0,0))):=(b1.block w.heap.size HL.out).trans HQ.out
   obtain⟨q0,q1,q2,q3,qf⟩:=quad_cells Q1.out
   have qf0:=qf 0
   have qf1:=qf 1
   have qf2:=qf 2
   have qf3:=qf 3
   simp only[rdV]
   clear qf b1 KR c0
   go_wp2
   exact bodyPost_ret (v:=.agg #[.int .i64 0,.string ⟨#[]⟩,.slice none 0 0,.string ⟨#[]⟩]) (results_cell_row rfl _ _ w.heap.size 98 _ (0,0) _ rfl (four_set (.int .i64 0) (.string ⟨#[]⟩) (.slice none 0 0) (.string ⟨#[]⟩) Q1.out) Tryz.underlying98 rfl (by kernel_rfl)) rfl (zero_post _ _ _ rfl (fourS_below B1.out (Nat.le_refl _) _ _ _ _))
 | some q =>
   obtain⟨y,leaf⟩:=q
   cases leaf with
   | true =>
     go_enter Tryz.func84,Tryz.ntmps84
     go_wp2_with fail
     refine KR.mono ?_
     rintro e w1 ⟨rfl,b1⟩
     have B1:Hid (Below w.heap.size w w1):=BX.out.trans (b1.mono BX.out.size)
     have Q1:Hid (w1.heap[w.heap.size]? = some (.cells #[.int .i64 0,.string ⟨#[]⟩,.slice none 0 0,.string ⟨#[]⟩] 98 (0,0))):=(b1.block w.heap.size HL.out).trans HQ.out
     obtain⟨q0,q1,q2,q3,qf⟩:=quad_cells Q1.out
     have qf0:=qf 0
     have qf1:=qf 1
     have qf2:=qf 2
     have qf3:=qf 3
     have c1:=(B1.out.cell (p:=⟨b,off+1,none⟩) HC1.out.2).trans HC1.out.1
     simp only[rdV]
     clear qf b1 KR c0
     go_wp2
     exact bodyPost_ret (v:=.agg #[.int .i64 1,.string ⟨y.toArray⟩,.slice none 0 0,.string ⟨t.toArray⟩]) (results_cell_row rfl _ _ w.heap.size 98 _ (0,0) _ rfl (four_set (.int .i64 1) (.string ⟨y.toArray⟩) (.slice none 0 0) (.string ⟨t.toArray⟩) Q1.out) Tryz.underlying98 rfl (by kernel_rfl)) rfl ⟨none,0,0,rfl,World.ownsRow_nil _ _ _ _,fourS_below B1.out (Nat.le_refl _) _ _ _ _⟩
   | false =>
     go_enter Tryz.func84,Tryz.ntmps84
     go_wp2_with fail
     refine KR.mono ?_
     rintro e w1 ⟨rfl,b1⟩
     have B1:Hid (Below w.heap.size w w1):=BX.out.trans (b1.mono BX.out.size)
     have Q1:Hid (w1.heap[w.heap.size]? = some (.cells #[.int .i64 0,.string ⟨#[]⟩,.slice none 0 0,.string ⟨#[]⟩] 98 (0,0))):=(b1.block w.heap.size HL.out).trans HQ.out
     have L1:Hid (w.heap.size<w1.heap.size):=Nat.lt_of_lt_of_le HL.out b1.size
     have c1:=(B1.out.cell (p:=⟨b,off+1,none⟩) HC1.out.2).trans HC1.out.1
     have Q2:Hid ((w1.alloc (.cells #[.string ⟨t.toArray⟩] 9)).heap[w.heap.size]? = some (.cells #[.int .i64 0,.string ⟨#[]⟩,.slice none 0 0,.string ⟨#[]⟩] 98 (0,0))):=(Below.heap_alloc w1 _ w.heap.size L1.out).trans Q1.out
     obtain⟨q0,q1,q2,q3,qf⟩:=quad_cells Q2.out
     have qf0:=qf 0
     have qf1:=qf 1
     have qf2:=qf 2
     have qf3:=qf 3
     simp only[rdV]
     clear qf b1 KR c0
     go_wp2
     have O2:=World.ownsRow_lit (e:=9) (size:=1) w1 #[.string ⟨t.toArray⟩] 1 (base:=w.heap.size+1) (by have:=L1.out;omega) (by decide) rfl
     have hne:(Value.slice (some ⟨w1.heap.size,0,none⟩) 1 1).ownBlock≠some w.heap.size:=by simp[Value.ownBlock];have:=L1.out;omega
     exact bodyPost_ret (v:=.agg #[.int .i64 2,.string ⟨y.toArray⟩,.slice (some ⟨w1.heap.size,0,none⟩) 1 1,.string ⟨#[]⟩]) (results_cell_row rfl _ _ w.heap.size 98 _ (0,0) _ rfl (four_set (.int .i64 2) (.string ⟨y.toArray⟩) (.slice (some ⟨w1.heap.size,0,none⟩) 1 1) (.string ⟨#[]⟩) Q2.out) Tryz.underlying98 rfl (by kernel_rfl)) rfl ⟨some ⟨w1.heap.size,0,none⟩,1,1,rfl,(four_own O2 hne _ _ _ _).mono (by omega),fourS_below (B1.out.alloc B1.out.size _) (Nat.le_refl _) _ _ _ _⟩
theorem impl_nodeOf (a:Option Addr) (cap:Nat) (ts:List (List UInt8)) (w:World) (hn:ts.length≤1048576) (hcap:ts.length≤cap) (hm:∀ t∈ts,t.length≤60000) (hs:IsStrs w a ts) :
 Calls Tryz.prog 84 #[.slice a ts.length cap] w fun e w'=>NodePost w (nodeOfI ts) e w':=by
 unfold nodeOfI
 by_cases h17:ts.length=17
 · rw[if_pos h17]
   obtain⟨b,off,rfl,hc⟩:=strs_at hs 0 (by omega)
   have:=nodeOf_17 b off cap ts w h17 (by omega) hs (hc 16 (by omega))
   rw[h17]
   exact this
 · rw[if_neg h17]
   by_cases h2:ts.length=2
   · rw[if_pos h2]
     obtain⟨b,off,rfl,hc⟩:=strs_at hs 0 (by omega)
     have:=nodeOf_2 b off cap (ts.getD 0 []) (ts.getD 1 []) w (getD_small ts hm 0) (hc 0 (by omega)) (hc 1 (by omega))
     rw[h2]
     exact this
   · rw[if_neg h2]
     exact nodeOf_no a cap ts.length w h17 h2 hn
theorem results_csN {P:Program} {fn:Func} {p r:Tmp} {ty:TypeId} (h:fn.results=#[.cell p ty,.tmp r]) (tmps:Array Value) (w:World) (g:Nat) (t:TypeId) (cs:Array Value) (d:TypeDesc)
 (hp:tmps.getD p undef=.pointer (some ⟨g,0,none⟩)) (hg:w.heap[g]? = some (.cells cs t (0,0))) (hu:P.underlying ty=some d) (hd:(match d with | .struct _ | .array _ _=>true | _=>false)=true) (hi:(P.info? ty).map (·.size)=some cs.size) (vb:Value) (hb:tmps.getD r undef=vb) :
 (results fn tmps).run P w=.ok (.tuple #[.agg cs,vb]) w:=by
 subst hb
 have hp':tmps[p]?.getD undef=.pointer (some ⟨g,0,none⟩):=by simpa using hp
 simp[results,h,hp',asAddr,run_loadVar_row w g t ty cs (0,0) d hg hu hd hi]
def ReadPost (w:World) (o:Option NodeL) (e:Ending) (w':World):Prop :=
 ∃ (a:Option Addr) (m c:Nat),e=.returned (.tuple #[.agg #[.int .i64 (o.getD zeroN).k,.string ⟨(o.getD zeroN).p.toArray⟩,.slice a m c,.string ⟨(o.getD zeroN).v.toArray⟩],.bool o.isSome])∧w'.ownsRow w.heap.size 9 1 (.slice a m c) (o.getD zeroN).ls.length (scells (o.getD zeroN).ls)∧Below w.heap.size w w'
set_option maxRecDepth 100000 in
set_option maxHeartbeats 2000000 in
theorem impl_readNode (s:List UInt8) (w:World) (hl:s.length≤1048576) :
 Calls Tryz.prog 58 #[.string ⟨s.toArray⟩] w fun e w'=>ReadPost w (readNode s) e w':=by
 have B0:Below w.heap.size w (w.alloc (.cells #[.int .i64 0,.string ⟨#[]⟩,.slice none 0 0,.string ⟨#[]⟩] 98)):=(Below.refl _ _).alloc (Nat.le_refl _) _
 have HQ:Hid ((w.alloc (.cells #[.int .i64 0,.string ⟨#[]⟩,.slice none 0 0,.string ⟨#[]⟩] 98)).heap[w.heap.size]? = some (.cells #[.int .i64 0,.string ⟨#[]⟩,.slice none 0 0,.string ⟨#[]⟩] 98 (0,0))):=heap_alloc_new w _
 have BX:Hid (Below w.heap.size w (w.alloc (.cells #[.int .i64 0,.string ⟨#[]⟩,.slice none 0 0,.string ⟨#[]⟩] 98))):=B0
 have HL:Hid (w.heap.size<(w.alloc (.cells #[.int .i64 0,.string ⟨#[]⟩,.slice none 0 0,.string ⟨#[]⟩] 98)).heap.size):=by rw[Hid];simp
 have KT:=impl_texts s (w.alloc (.cells #[.int .i64 0,.string ⟨#[]⟩,.slice none 0 0,.string ⟨#[]⟩] 98)) hl
 obtain⟨o,ho⟩:∃ o,o=readNode s:=⟨_,rfl⟩
 rw[←ho]
 cases ht:textsL s with
 | none =>
   rw[ht] at KT
   have HZ:Hid (o=none):=by rw[Hid,ho];simp only[readNode,ht]
   clear ht ho B0
   go_enter Tryz.func58,Tryz.ntmps58
   go_wp2_with fail
   refine KT.mono ?_
   rintro e w1 ⟨rfl,b1⟩
   have B1:Hid (Below w.heap.size w w1):=BX.out.trans (b1.mono BX.out.size)
   have Q1:Hid (w1.heap[w.heap.size]? = some (.cells #[.int .i64 0,.string ⟨#[]⟩,.slice none 0 0,.string ⟨#[]⟩] 98 (0,0))):=(b1.block w.heap.size HL.out).trans HQ.out
   obtain⟨q0,q1,q2,q3,qf⟩:=quad_cells Q1.out
   have qf0:=qf 0
   have qf1:=qf 1
   have qf2:=qf 2
   have qf3:=qf 3
   clear qf b1 KT
   go_wp2
   exact bodyPost_ret (v:=.tuple #[.agg #[.int .i64 0,.string ⟨#[]⟩,.slice none 0 0,.string ⟨#[]⟩],.bool false]) (results_csN rfl _ _ w.heap.size 98 _ _ rfl (four_set (.int .i64 0) (.string ⟨#[]⟩) (.slice none 0 0) (.string ⟨#[]⟩) Q1.out) Tryz.underlying98 rfl (by kernel_rfl) (.bool false) rfl) rfl (by rw[HZ.out];exact⟨none,0,0,rfl,World.ownsRow_nil _ _ _ _,fourS_below B1.out (Nat.le_refl _) _ _ _ _⟩)
 | some ts =>
   rw[ht] at KT
   have hts:=textsL_each s ts ht
   have HO:Hid (o=keepN s (nodeOfI ts)):=by rw[Hid,ho];simp only[readNode,ht]
   have hsm:=(node_small ts hts.2).1
   have HKN:Hid (∀ W a c,ts.length≤c→IsStrs W a ts→Calls Tryz.prog 84 #[.slice a ts.length c] W fun e w'=>NodePost W (nodeOfI ts) e w'):=fun W a c h1 h2=>impl_nodeOf a c ts W (by have:=hts.1;omega) h1 hts.2 h2
   obtain⟨n,hn⟩:∃ n,n=nodeOfI ts:=⟨_,rfl⟩
   rw[←hn] at HO HKN hsm
   have HKT:Hid (∀ W a c,IsStrs W a n.ls→Calls Tryz.prog 85 #[.agg #[.int .i64 n.k,.string ⟨n.p.toArray⟩,.slice a n.ls.length c,.string ⟨n.v.toArray⟩]] W fun e w'=>e=.returned (.tuple #[.string ⟨n.text.toArray⟩,.bool n.ok])∧Below W.heap.size W w'):=fun W a c h=>impl_nodeText n.k n.p a c n.ls n.v W hsm.1 hsm.2.1 hsm.2.2.1 hsm.2.2.2 h
   have HK1:Hid (n.ok=true→n.text=s→o=some n):=fun h1 h2=>by rw[HO.out,keepN_yes s n h1 h2]
   have HK2:Hid (n.ok=false→o=none):=fun h1=>by rw[HO.out,keepN_no s n h1]
   have HK3:Hid (¬ n.text=s→o=none):=fun h1=>by rw[HO.out,keepN_un s n h1]
   obtain⟨tx,htx⟩:∃ tx,tx=n.text:=⟨_,rfl⟩
   obtain⟨ok,hok⟩:∃ ok,ok=n.ok:=⟨_,rfl⟩
   rw[←htx,←hok] at HKT
   rw[←hok] at HK1 HK2
   rw[←htx] at HK1 HK3
   obtain⟨k,p,ls,v⟩:=n
   simp only at HKT
   clear ht ho B0 hts hsm hn htx hok HO
   go_enter Tryz.func58,Tryz.ntmps58
   go_wp2_with fail
   refine KT.mono ?_
   rintro e w1 ⟨a1,c1,rfl,o1,b1,hc1⟩
   have B1:Hid (Below w.heap.size w w1):=BX.out.trans (b1.mono BX.out.size)
   have Q1:Hid (w1.heap[w.heap.size]? = some (.cells #[.int .i64 0,.string ⟨#[]⟩,.slice none 0 0,.string ⟨#[]⟩] 98 (0,0))):=(b1.block w.heap.size HL.out).trans HQ.out
   have L1:Hid (w.heap.size<w1.heap.size):=Nat.lt_of_lt_of_le HL.out b1.size
   have K2:=HKN.out w1 a1 c1 hc1 (strs_own o1).2.2
   clear KT o1 b1 hc1 HKN
   go_wp2_with fail
   refine K2.mono ?_
   rintro e w2 ⟨a2,m2,c2,rfl,o2,b2⟩
   simp only at o2 ⊢
   obtain⟨rfl,_,is2⟩:=strs_own o2
   have B2:Hid (Below w.heap.size w w2):=B1.out.trans (b2.mono B1.out.size)
   have Q2:Hid (w2.heap[w.heap.size]? = some (.cells #[.int .i64 0,.string ⟨#[]⟩,.slice none 0 0,.string ⟨#[]⟩] 98 (0,0))):=(b2.block w.heap.size L1.out).trans Q1.out
   have L2:Hid (w.heap.size<w2.heap.size):=Nat.lt_of_lt_of_le L1.out b2.size
   have O2:=hidOwn (o2.mono (by have:=L1.out;omega:w.heap.size+1≤w1.heap.size))
   have BA:Hid (Below w2.heap.size w2 (w2.alloc (.cells #[.int .i64 k,.string ⟨p.toArray⟩,.slice a2 ls.length c2,.string ⟨v.toArray⟩] 98))):=(Below.refl _ _).alloc (Nat.le_refl _) _
   have QA:Hid ((w2.alloc (.cells #[.int .i64 k,.string ⟨p.toArray⟩,.slice a2 ls.length c2,.string ⟨v.toArray⟩] 98)).heap[w2.heap.size]? = some (.cells #[.int .i64 k,.string ⟨p.toArray⟩,.slice a2 ls.length c2,.string ⟨v.toArray⟩] 98 (0,0))):=heap_alloc_new w2 _
   have ZA:Hid ((w2.alloc (.cells #[.int .i64 k,.string ⟨p.toArray⟩,.slice a2 ls.length c2,.string ⟨v.toArray⟩] 98)).heap.size=w2.heap.size+1):=by rw[Hid];simp
   have K3:=HKT.out (w2.alloc (.cells #[.int .i64 k,.string ⟨p.toArray⟩,.slice a2 ls.length c2,.string ⟨v.toArray⟩] 98)) a2 c2 (strs_later is2 BA.out)
   clear K2 o2 b2 is2 HKT
   go_wp2_with fail
   refine K3.mono ?_
   rintro e w3 ⟨rfl,b3⟩
   have B2a:Below w.heap.size w (w2.alloc (.cells #[.int .i64 k,.string ⟨p.toArray⟩,.slice a2 ls.length c2,.string ⟨v.toArray⟩] 98)):=B2.out.trans (BA.out.mono B2.out.size)
   have B3:Hid (Below w.heap.size w w3):=B2a.trans (b3.mono B2a.size)
   have Q3:Hid (w3.heap[w.heap.size]? = some (.cells #[.int .i64 0,.string ⟨#[]⟩,.slice none 0 0,.string ⟨#[]⟩] 98 (0,0))):=(b3.block w.heap.size (by have:=ZA.out;have:=L2.out;omega)).trans ((BA.out.block w.heap.size L2.out).trans Q2.out)
   have R3:Hid (w3.heap[w2.heap.size]? = some (.cells #[.int .i64 k,.string ⟨p.toArray⟩,.slice a2 ls.length c2,.string ⟨v.toArray⟩] 98 (0,0))):=(b3.block w2.heap.size (by have:=ZA.out;omega)).trans QA.out
   have O3:=hidOwn (keptX (keptX O2.out BA.out) b3)
   obtain⟨q0,q1,q2,q3,qf⟩:=quad_cells Q3.out
   have qf0:=qf 0
   have qf1:=qf 1
   have qf2:=qf 2
   have qf3:=qf 3
   obtain⟨r0,r1,r2,r3,rf⟩:=quad_cells R3.out
   have rf0:=rf 0
   have rf1:=rf 1
   have rf2:=rf 2
   have rf3:=rf 3
   clear qf rf b3 B2a K3
   cases ok with
   | false =>
     have HZ:Hid (o=none):=HK2.out rfl
     clear HK1 HK2 HK3
     go_wp2
     exact bodyPost_ret (v:=.tuple #[.agg #[.int .i64 0,.string ⟨#[]⟩,.slice none 0 0,.string ⟨#[]⟩],.bool false]) (results_csN rfl _ _ w.heap.size 98 _ _ rfl (four_set (.int .i64 0) (.string ⟨#[]⟩) (.slice none 0 0) (.string ⟨#[]⟩) Q3.out) Tryz.underlying98 rfl (by kernel_rfl) (.bool false) rfl) rfl (by rw[HZ.out];exact⟨none,0,0,rfl,World.ownsRow_nil _ _ _ _,fourS_below B3.out (Nat.le_refl _) _ _ _ _⟩)
   | true =>
     by_cases hts:tx=s
     · subst hts
       have HZ:Hid (o=some ⟨k,p,ls,v⟩):=HK1.out rfl rfl
       clear HK1 HK2 HK3
       go_wp2
       have hne:(Value.slice a2 ls.length c2).ownBlock≠some w.heap.size:=fun h=>by have:=(O3.out.lt _ h).1;omega
       exact bodyPost_ret (v:=.tuple #[.agg #[.int .i64 k,.string ⟨p.toArray⟩,.slice a2 ls.length c2,.string ⟨v.toArray⟩],.bool true]) (results_csN rfl _ _ w.heap.size 98 _ _ rfl (four_set (.int .i64 k) (.string ⟨p.toArray⟩) (.slice a2 ls.length c2) (.string ⟨v.toArray⟩) Q3.out) Tryz.underlying98 rfl (by kernel_rfl) (.bool true) rfl) rfl (by rw[HZ.out];exact⟨a2,ls.length,c2,rfl,(four_own O3.out hne _ _ _ _).mono (by omega),fourS_below B3.out (Nat.le_refl _) _ _ _ _⟩)
     · have HZ:Hid (o=none):=HK3.out hts
       have htb:(tx == s)=false:=by rw[beq_eq_false_iff_ne];exact hts
       clear HK1 HK2 HK3
       go_wp2
       exact bodyPost_ret (v:=.tuple #[.agg #[.int .i64 0,.string ⟨#[]⟩,.slice none 0 0,.string ⟨#[]⟩],.bool false]) (results_csN rfl _ _ w.heap.size 98 _ _ rfl (four_set (.int .i64 0) (.string ⟨#[]⟩) (.slice none 0 0) (.string ⟨#[]⟩) Q3.out) Tryz.underlying98 rfl (by kernel_rfl) (.bool false) rfl) rfl (by rw[HZ.out];exact⟨none,0,0,rfl,World.ownsRow_nil _ _ _ _,fourS_below B3.out (Nat.le_refl _) _ _ _ _⟩)
end Go.Proofs.YtahocpjieffbaaaGreatDoor
