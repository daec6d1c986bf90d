/-
 Texts that are laid as one: SzGen, LNode, TextsL, RNode, IReadN.
-/
import Derived.Lib.SmallJoins
import Derived.Test.YtppljdnbhoeeoaaGreatDoorMathRs
import Derived.Test.YtppljdnbhoeeoaaGreatDoorIItems2
import Derived.Test.YtppljdnbhoeeoaaGreatDoorSTakes
namespace Go.Proofs.YtppljdnbhoeeoaaGreatDoor
open Go.RowKit
set_option linter.unusedVariables false
set_option maxHeartbeats 2000000
set_option maxRecDepth 100000
open Go.ChangeShapes Go.WideShapes Go.ChangeAt Go.RowKit
theorem zhf {w:World} {b j:Nat} {u v x y z:Value} {t:TypeId} (h:w.heap[b]? = some (.cells #[u,v,x,y] t (0,0))):(w.setCell ⟨b,j,none⟩ z).heap[b]? = some (.cells (#[u,v,x,y].setIfInBounds j z) t (0,0)):=by
 have hlt:=lt_of_block h
 have h':w.heap[b]=.cells #[u,v,x,y] t (0,0):=by simpa [Array.getElem?_eq_getElem hlt] using h
 show (w.heap.modify b _)[b]? = _
 rw[Array.getElem?_eq_getElem (by simpa using hlt),Array.getElem_modify_self,h']
 rfl
def zoa (w:World) (o:Option (List (List UInt8))) (e:Ending) (w':World):Prop:=match o with
 | none=>e=.returned (.tuple #[.slice none 0 0,.bool false])∧Below w.heap.size w w'
 | some ts=>∃ (a:Option Addr) (c:Nat),e=.returned (.tuple #[.slice a ts.length c,.bool true])∧w'.ownsRow w.heap.size 9 1 (.slice a ts.length c) ts.length (zh ts)∧Below w.heap.size w w'∧ts.length≤c
theorem zob {w:World} {base e n:Nat} {a:Option Addr} {m c:Nat} {xs:List Value} (h:w.ownsRow base e 1 (.slice a m c) n xs):m=n∧n≤c:=by
 rcases h.2 with ⟨h',h0⟩ | ⟨g,cap',cur,h',hb,hg,hc,_⟩
 · cases h';omega
 · cases h';exact⟨rfl,hc⟩
theorem zwp (s : List UInt8) (w : World) (hl : s.length ≤ 1048576) :
 Calls Tryz.prog 130 #[.string ⟨s.toArray⟩] w fun e w'=>zoa w (zbc s) e w':=by
 obtain⟨i0,hi0,hz0,hz1,hz2⟩:=info_parts zdc
 have K:=zwb s w hl
 cases hi:zbb s with
 | none =>
   have e1:zbc s=none:=by simp only[zbc,hi]
   rw[e1]
   rw[hi] at K
   clear hi e1
   go_enter Tryz.func130,Tryz.ntmps130
   go_wp2_with fail
   refine K.mono ?_
   rintro e w1 ⟨rfl,b1⟩
   go_wp2
   go_ret2
   exact⟨rfl,b1⟩
 | some ls =>
   have hil:=zkl s ls hi
   have e1:zbc s=zap ls:=by simp only[zbc,hi]
   rw[e1]
   rw[hi] at K
   have hml:∀ j (h:j<ls.length),ls[j].length≤1048576:=fun j h=>by have:=zen ls j h;omega
   obtain⟨o,ho⟩:∃ o,o=zap ls:=⟨_,rfl⟩
   have HO:Hid _:=ho
   rw[←ho]
   clear hi e1 ho hil
   go_enter Tryz.func130,Tryz.ntmps130
   go_wp2_with fail
   refine K.mono ?_
   rintro e w1 ⟨v,rfl,o1,b1,hn⟩
   obtain⟨a1,m1,c1,rfl⟩:=zdu o1
   obtain⟨rfl,_,is1⟩:=zc8 o1
   have hs1:=b1.size
   clear K o1
   go_wp2
   go_loopw [6,8,9,10,11,12,22] (fun v _ _ _ _ _ i wr=>∃ j c2:Nat,∃ a2:Option Addr,∃ ts:List (List UInt8),j≤ls.length∧i=.int .i64 (j:Int)∧v=.slice a2 j c2∧Hid (zap (ls.take j)=some ts)∧wr.ownsRow w1.heap.size 9 1 (.slice a2 j c2) j (zh ts)∧Below w1.heap.size w1 wr) (fun _ _ _ _ _ _ i _=>ls.length - (intOf i).toNat)
   case atStart=>exact⟨0,0,none,[],Nat.zero_le _,rfl,rfl,by rw[Hid];rfl,World.ownsRow_nil _ _ _ _,Below.refl _ _⟩
   case round =>
    obtain⟨j,c2,a2,ts,hj,rfl,rfl,HT,hown,hbel⟩:=hrel
    have hsz:=hbel.size
    have hwb:=b1.trans (hbel.mono hs1)
    by_cases hlt:j<ls.length
    · obtain⟨g,of,hg,hc1⟩:∃ g of,a1=some ⟨g,of,none⟩∧wr.cell? ⟨g,of+j,none⟩=some (.string ⟨ls[j].toArray⟩):=by
       rcases zay is1 hbel with h | ⟨g,of,h,hc⟩
       · rw[h] at hlt;simp at hlt
       · exact⟨g,of,h,hc j hlt⟩
      subst hg
      have hxl:=hml j hlt
      have HN:Hid (textOf ls[j]=none→zap ls=none):=fun h=>zpz ls j hlt h
      have HS:Hid (∀ t,textOf ls[j]=some t→zap (ls.take (j+1))=some (ts ++ [t])):=fun t h=>zq0 ls j hlt t ts HT.out h
      have hj0:(0:Int)≤(j:Int):=by omega
      have hj1:(j:Int)<(ls.length:Int):=by omega
      have hlow:∀ k,(Value.slice a2 j c2).ownBlock=some k→w1.heap.size≤k:=fun k hk=>(hown.lt k hk).1
      obtain⟨x,hx⟩:∃ x,x=ls[j]:=⟨_,rfl⟩
      rw[←hx] at hc1 hxl HN HS
      have H1:=fun W=>zqh x W hxl
      have HW:Hid _:=hown
      clear hx hown hml
      cases ht:zn x with
      | none =>
        rw[ht] at H1
        have HZ:Hid (o=none):=by rw[Hid,HO.out];exact HN.out (zpy x ht)
        clear ht
        go_wp2_with fail
        refine (H1 _).mono ?_
        rintro e w2 ⟨rfl,b2⟩
        have B2:=hwb.trans (b2.mono hwb.size)
        simp only[tkV]
        go_wp2
        go_ret2
        rw[HZ.out]
        exact⟨rfl,B2⟩
      | some q =>
        obtain⟨kd,bd,rest⟩:=q
        rw[ht] at H1
        rcases zgn x kd bd rest ht with rfl | rfl
        · have HSS:Hid (zap (ls.take (j+1))=some (ts ++ [bd])):=HS.out bd (zpx x bd rest ht)
          clear ht
          go_wp2_with fail
          refine (H1 _).mono ?_
          rintro e w2 ⟨rfl,b2⟩
          have hown2:=zg6 HW.out b2
          have hbel2:=hbel.trans (b2.mono hsz)
          have hsz2:=hbel2.size
          simp only[tkV]
          clear HW b2 H1 hbel
          go_wp2_with (at_builtin;refine wpList_append_lies _ rfl _ _ 138 rfl w1.heap.size 9 i0 (.string ⟨#[]⟩) 1 16 Tryz.underlying138 hi0 hz0 hz1 hz2 rfl (by decide) (.slice a2 j c2) j _ rfl (hown2.alloc _) ⟨w2.heap.size,0,none⟩ 1 1 [.string ⟨bd.toArray⟩] rfl rfl (World.news_of_block (cs:=#[.string ⟨bd.toArray⟩]) (t:=9) (fr:=(0,0)) (heap_alloc_new w2 _)) (by simp[Value.oneCell']) (by omega) (by unfold maxLen;omega) (by omega) (by simp;omega) (w2.heap.size+1) (by simp) ?_;intro g2 cap2 w3 hown3 hgrow hat hlt3)
          have hbel3:Below w1.heap.size w1 w3:=(hbel2.alloc hsz2 _).grown hgrow (by simp;omega) hlow
          have HO3:Hid (w3.ownsRow w1.heap.size 9 1 (.slice (some ⟨g2,0,none⟩) (j+1) cap2) (j+1) (zh (ts ++ [bd]))):=by rw[Hid,zc0];exact hown3
          clear hgrow hown3 hown2 hbel2
          go_roundw
          case rel=>exact⟨j+1,cap2,some ⟨g2,0,none⟩,ts ++ [bd],by omega,by go_num,rfl,HSS.out,HO3.out,hbel3⟩
          case measure=>simp[intOf];omega
        · have HZ:Hid (o=none):=by rw[Hid,HO.out];exact HN.out (textOf_list x bd rest ht)
          clear ht
          go_wp2_with fail
          refine (H1 _).mono ?_
          rintro e w2 ⟨rfl,b2⟩
          have B2:=hwb.trans (b2.mono hwb.size)
          simp only[tkV]
          go_wp2
          go_ret2
          rw[HZ.out]
          exact⟨rfl,B2⟩
    · have hjl:j=ls.length:=by omega
      subst hjl
      have HZ:Hid (o=some ts∧ts.length=ls.length):=by
       have h1:=HT.out
       rw[List.take_length] at h1
       exact⟨by rw[HO.out,h1],(zhy ls ts h1).1⟩
      have HW:Hid (wr.ownsRow w1.heap.size 9 1 (.slice a2 ls.length c2) ls.length (zh ts)):=hown
      clear hown is1 hml
      go_wp2
      go_ret2
      rw[HZ.out.1]
      have hw2:=HW.out.mono hs1
      rw[←HZ.out.2] at hw2
      exact⟨a2,c2,by rw[HZ.out.2];rfl,hw2,hwb,(zob hw2).2⟩
theorem zhg (s : List UInt8) (w : World) (hl : s.length ≤ 1048576) :
 Calls Tryz.prog 121 #[.string ⟨s.toArray⟩] w fun e w'=>zoa w (zbc s) e w':=by
 obtain⟨i0,hi0,hz0,hz1,hz2⟩:=info_parts zdc
 have K:=za2i s w hl
 cases hi:zbb s with
 | none =>
   have e1:zbc s=none:=by simp only[zbc,hi]
   rw[e1]
   rw[hi] at K
   clear hi e1
   go_enter Tryz.func121,Tryz.ntmps121
   go_wp2_with fail
   refine K.mono ?_
   rintro e w1 ⟨rfl,b1⟩
   go_wp2
   go_ret2
   exact⟨rfl,b1⟩
 | some ls =>
   have hil:=zkl s ls hi
   have e1:zbc s=zap ls:=by simp only[zbc,hi]
   rw[e1]
   rw[hi] at K
   have hml:∀ j (h:j<ls.length),ls[j].length≤1048576:=fun j h=>by have:=zen ls j h;omega
   obtain⟨o,ho⟩:∃ o,o=zap ls:=⟨_,rfl⟩
   have HO:Hid _:=ho
   rw[←ho]
   clear hi e1 ho hil
   go_enter Tryz.func121,Tryz.ntmps121
   go_wp2_with fail
   refine K.mono ?_
   rintro e w1 ⟨v,rfl,o1,b1,hn⟩
   obtain⟨a1,m1,c1,rfl⟩:=zdu o1
   obtain⟨rfl,_,is1⟩:=zc8 o1
   have hs1:=b1.size
   clear K o1
   go_wp2
   go_loopw [6,7,8,9,10,11] (fun v i _ _ _ _ wr=>∃ j c2:Nat,∃ a2:Option Addr,∃ ts:List (List UInt8),j≤ls.length∧i=.int .i64 (j:Int)∧v=.slice a2 j c2∧Hid (zap (ls.take j)=some ts)∧wr.ownsRow w1.heap.size 9 1 (.slice a2 j c2) j (zh ts)∧Below w1.heap.size w1 wr) (fun _ i _ _ _ _ _=>ls.length - (intOf i).toNat)
   case atStart=>exact⟨0,0,some ⟨w1.heap.size,0,none⟩,[],Nat.zero_le _,rfl,rfl,by rw[Hid];rfl,World.ownsRow_lit (e:=9) (size:=1) w1 #[] 0 (base:=w1.heap.size) (Nat.le_refl _) (Nat.zero_le _) rfl,(Below.refl _ _).alloc (Nat.le_refl _) _⟩
   case round =>
    obtain⟨j,c2,a2,ts,hj,rfl,rfl,HT,hown,hbel⟩:=hrel
    have hsz:=hbel.size
    have hwb:=b1.trans (hbel.mono hs1)
    by_cases hlt:j<ls.length
    · obtain⟨g,of,hg,hc1⟩:∃ g of,a1=some ⟨g,of,none⟩∧wr.cell? ⟨g,of+j,none⟩=some (.string ⟨ls[j].toArray⟩):=by
       rcases zay is1 hbel with h | ⟨g,of,h,hc⟩
       · rw[h] at hlt;simp at hlt
       · exact⟨g,of,h,hc j hlt⟩
      subst hg
      have hxl:=hml j hlt
      have HN:Hid (textOf ls[j]=none→zap ls=none):=fun h=>zpz ls j hlt h
      have HS:Hid (∀ t,textOf ls[j]=some t→zap (ls.take (j+1))=some (ts ++ [t])):=fun t h=>zq0 ls j hlt t ts HT.out h
      have hj0:(0:Int)≤(j:Int):=by omega
      have hj1:(j:Int)<(ls.length:Int):=by omega
      have hlow:∀ k,(Value.slice a2 j c2).ownBlock=some k→w1.heap.size≤k:=fun k hk=>(hown.lt k hk).1
      obtain⟨x,hx⟩:∃ x,x=ls[j]:=⟨_,rfl⟩
      rw[←hx] at hc1 hxl HN HS
      have H1:=fun W=>zik x W hxl
      have HW:Hid _:=hown
      clear hx hown hml
      cases ht:zn x with
      | none =>
        rw[ht] at H1
        have HZ:Hid (o=none):=by rw[Hid,HO.out];exact HN.out (zpy x ht)
        clear ht
        go_wp2_with fail
        refine (H1 _).mono ?_
        rintro e w2 ⟨rfl,b2⟩
        have B2:=hwb.trans (b2.mono hwb.size)
        simp only[tkV]
        go_wp2
        go_ret2
        rw[HZ.out]
        exact⟨rfl,B2⟩
      | some q =>
        obtain⟨kd,bd,rest⟩:=q
        rw[ht] at H1
        rcases zgn x kd bd rest ht with rfl | rfl
        · have HSS:Hid (zap (ls.take (j+1))=some (ts ++ [bd])):=HS.out bd (zpx x bd rest ht)
          clear ht
          go_wp2_with fail
          refine (H1 _).mono ?_
          rintro e w2 ⟨rfl,b2⟩
          have hown2:=zg6 HW.out b2
          have hbel2:=hbel.trans (b2.mono hsz)
          have hsz2:=hbel2.size
          simp only[tkV]
          clear HW b2 H1 hbel
          go_wp2_with (at_builtin;refine wpList_append_lies _ rfl _ _ 138 rfl w1.heap.size 9 i0 (.string ⟨#[]⟩) 1 16 Tryz.underlying138 hi0 hz0 hz1 hz2 rfl (by decide) (.slice a2 j c2) j _ rfl (hown2.alloc _) ⟨w2.heap.size,0,none⟩ 1 1 [.string ⟨bd.toArray⟩] rfl rfl (World.news_of_block (cs:=#[.string ⟨bd.toArray⟩]) (t:=9) (fr:=(0,0)) (heap_alloc_new w2 _)) (by simp[Value.oneCell']) (by omega) (by unfold maxLen;omega) (by omega) (by simp;omega) (w2.heap.size+1) (by simp) ?_;intro g2 cap2 w3 hown3 hgrow hat hlt3)
          have hbel3:Below w1.heap.size w1 w3:=(hbel2.alloc hsz2 _).grown hgrow (by simp;omega) hlow
          have HO3:Hid (w3.ownsRow w1.heap.size 9 1 (.slice (some ⟨g2,0,none⟩) (j+1) cap2) (j+1) (zh (ts ++ [bd]))):=by rw[Hid,zc0];exact hown3
          clear hgrow hown3 hown2 hbel2
          go_roundw
          case rel=>exact⟨j+1,cap2,some ⟨g2,0,none⟩,ts ++ [bd],by omega,by go_num,rfl,HSS.out,HO3.out,hbel3⟩
          case measure=>simp[intOf];omega
        · have HZ:Hid (o=none):=by rw[Hid,HO.out];exact HN.out (textOf_list x bd rest ht)
          clear ht
          go_wp2_with fail
          refine (H1 _).mono ?_
          rintro e w2 ⟨rfl,b2⟩
          have B2:=hwb.trans (b2.mono hwb.size)
          simp only[tkV]
          go_wp2
          go_ret2
          rw[HZ.out]
          exact⟨rfl,B2⟩
    · have hjl:j=ls.length:=by omega
      subst hjl
      have HZ:Hid (o=some ts∧ts.length=ls.length):=by
       have h1:=HT.out
       rw[List.take_length] at h1
       exact⟨by rw[HO.out,h1],(zhy ls ts h1).1⟩
      have HW:Hid (wr.ownsRow w1.heap.size 9 1 (.slice a2 ls.length c2) ls.length (zh ts)):=hown
      clear hown is1 hml
      go_wp2
      go_ret2
      rw[HZ.out.1]
      have hw2:=HW.out.mono hs1
      rw[←HZ.out.2] at hw2
      exact⟨a2,c2,by rw[HZ.out.2];rfl,hw2,hwb,(zob hw2).2⟩
theorem zb7 {w:World} {b:Nat} {u0 u1 u2 u3:Value} {t:TypeId} (z0 z1 z2 z3:Value) (h:w.heap[b]? = some (.cells #[u0,u1,u2,u3] t (0,0))) :
 ((((w.setCell ⟨b,0,none⟩ z0).setCell ⟨b,1,none⟩ z1).setCell ⟨b,2,none⟩ z2).setCell ⟨b,3,none⟩ z3).heap[b]? = some (.cells #[z0,z1,z2,z3] t (0,0)) :=
 zhf (j:=3) (z:=z3) (zhf (j:=2) (z:=z2) (zhf (j:=1) (z:=z1) (zhf (j:=0) (z:=z0) h)))
theorem zb5 {B b:Nat} {w w':World} (h:Below B w w') (hb:B≤b) (z0 z1 z2 z3:Value):Below B w ((((w'.setCell ⟨b,0,none⟩ z0).setCell ⟨b,1,none⟩ z1).setCell ⟨b,2,none⟩ z2).setCell ⟨b,3,none⟩ z3) :=
 (((h.setCell hb _).setCell hb _).setCell hb _).setCell hb _
theorem ze2 {w:World} {B e n b:Nat} {v:Value} {xs:List Value} (h:w.ownsRow B e 1 v n xs) (hb:v.ownBlock≠some b) (z0 z1 z2 z3:Value):((((w.setCell ⟨b,0,none⟩ z0).setCell ⟨b,1,none⟩ z1).setCell ⟨b,2,none⟩ z2).setCell ⟨b,3,none⟩ z3).ownsRow B e 1 v n xs :=
 ownsRow_setCell_other (ownsRow_setCell_other (ownsRow_setCell_other (ownsRow_setCell_other h hb _) hb _) hb _) hb _
theorem zf9 {w:World} {a:Option Addr} {ls:List (List UInt8)} (h:zt w a ls) (j:Nat) (hj:j<ls.length):∃ b off,a=some ⟨b,off,none⟩∧∀ i,i<ls.length→w.cell? ⟨b,off+i,none⟩=some (.string ⟨(ls.getD i []).toArray⟩):=by
 rcases h with h | ⟨b,off,h,hc⟩
 · rw[h] at hj;simp at hj
 · refine⟨b,off,h,fun i hi=>?_⟩
   rw[hc i hi,List.getD_eq_getElem?_getD,List.getElem?_eq_getElem hi];rfl
theorem zwq {w:World} {b off:Nat} {ls:List (List UInt8)} (h:zt w (some ⟨b,off,none⟩) ls) (n:Nat):zt w (some ⟨b,off,none⟩) (ls.take n):=by
 rcases h with rfl | ⟨b',off',he,hc⟩
 · exact .inl (by simp)
 · cases he
   refine .inr ⟨b,off,rfl,fun j hj=>?_⟩
   simp at hj
   rw[hc j (by omega)]
   simp
def zfa (w:World) (n:NodeL) (e:Ending) (w':World):Prop :=
 ∃ (a:Option Addr) (m c:Nat),e=.returned (.agg #[.int .i64 n.k,.string ⟨n.p.toArray⟩,.slice a m c,.string ⟨n.v.toArray⟩])∧w'.ownsRow w.heap.size 9 1 (.slice a m c) n.ls.length (zh n.ls)∧Below w.heap.size w w'
theorem zwr (b off cap:Nat) (ts:List (List UInt8)) (w:World) (h17:ts.length=17) (hcap:17≤cap) (hs:zt w (some ⟨b,off,none⟩) ts) (hc16:w.cell? ⟨b,off+16,none⟩=some (.string ⟨(ts.getD 16 []).toArray⟩)) :
 Calls Tryz.prog 131 #[.slice (some ⟨b,off,none⟩) 17 cap] w fun e w'=>zfa w ⟨3,[],ts.take 16,ts.getD 16 []⟩ e w':=by
 have B0:Below w.heap.size w (w.alloc (.cells #[.int .i64 0,.string ⟨#[]⟩,.slice none 0 0,.string ⟨#[]⟩] 152)):=(Below.refl _ _).alloc (Nat.le_refl _) _
 have HQ:Hid ((w.alloc (.cells #[.int .i64 0,.string ⟨#[]⟩,.slice none 0 0,.string ⟨#[]⟩] 152)).heap[w.heap.size]? = some (.cells #[.int .i64 0,.string ⟨#[]⟩,.slice none 0 0,.string ⟨#[]⟩] 152 (0,0))):=heap_alloc_new w _
 obtain⟨wx,hwx⟩:∃ wx,wx=w.alloc (.cells #[.int .i64 0,.string ⟨#[]⟩,.slice none 0 0,.string ⟨#[]⟩] 152):=⟨_,rfl⟩
 have hsx:wx.heap.size=w.heap.size+1:=by rw[hwx];simp
 have HWX:Hid (w.alloc (.cells #[.int .i64 0,.string ⟨#[]⟩,.slice none 0 0,.string ⟨#[]⟩] 152)=wx):=hwx.symm
 rw[←hwx] at HQ B0
 have BX:Hid (Below w.heap.size w wx):=B0
 have HSX:Hid (wx.heap.size=w.heap.size+1):=hsx
 have hlt16:(ts.take 16).length=16:=by rw[List.length_take,h17];rfl
 have KC:=zo8 b off cap (ts.take 16) wx.drew (by omega) (zwq (zay hs (zd2 B0)) 16)
 rw[hlt16] at KC
 obtain⟨x,hx⟩:∃ x,x=ts.getD 16 []:=⟨_,rfl⟩
 obtain⟨ks,hks⟩:∃ ks,ks=ts.take 16:=⟨_,rfl⟩
 rw[←hks] at KC hlt16
 rw[←hx] at hc16
 rw[←hx,←hks]
 have hbl:=World.block_lt_of_cell? w _ hc16
 have HBL:Hid (b<w.heap.size):=hbl
 have HK16:Hid (ks.length=16):=hlt16
 have c16:=(B0.cell (p:=⟨b,off+16,none⟩) hbl).trans hc16
 have HC16:Hid (w.cell? ⟨b,off+16,none⟩=some (.string ⟨x.toArray⟩)):=hc16
 have hcp:(16:Int)≤(cap:Int):=by omega
 clear hwx hsx hs hx hks B0 hlt16 h17 hbl hc16
 go_enter Tryz.func131,Tryz.ntmps131
 go_wp2_with fail
 rw[HWX.out]
 go_region_held3 (fun w'=>w'.cell? ⟨b,off+16,none⟩=some (.string ⟨x.toArray⟩))
  (first | exact S2.out | exact S1.out | exact c16)
  (first
   | (go_at_call 141
      refine KC.mono ?_
      rintro e w1 ⟨a1,m1,c1,rfl,o1,b1'⟩
      have b1:Below wx.heap.size wx w1:=zcp b1'
      have B1:Hid (Below w.heap.size w w1):=BX.out.trans (b1.mono BX.out.size)
      have S1:Hid (w1.cell? ⟨b,off+16,none⟩=some (.string ⟨x.toArray⟩)):=(B1.out.cell (p:=⟨b,off+16,none⟩) HBL.out).trans HC16.out
      have Q1:Hid (w1.heap[w.heap.size]? = some (.cells #[.int .i64 0,.string ⟨#[]⟩,.slice none 0 0,.string ⟨#[]⟩] 152 (0,0))):=(b1.block w.heap.size (by have:=HSX.out;omega)).trans HQ.out
      obtain⟨q0,q1,q2,q3,qf⟩:=zi Q1.out
      have qf0:=qf 0
      have qf1:=qf 1
      have qf2:=qf 2
      have qf3:=qf 3
      have S2:Hid (((((w1.setCell ⟨w.heap.size,0,none⟩ (.int .i64 3)).setCell ⟨w.heap.size,1,none⟩ (.string ⟨#[]⟩)).setCell ⟨w.heap.size,2,none⟩ (.slice a1 m1 c1)).setCell ⟨w.heap.size,3,none⟩ (.string ⟨x.toArray⟩)).cell? ⟨b,off+16,none⟩=some (.string ⟨x.toArray⟩)):=((zb5 B1.out (Nat.le_refl _) _ _ _ _).cell (p:=⟨b,off+16,none⟩) HBL.out).trans HC16.out
      have O1:=zc (o1.mono (by show w.heap.size+1≤wx.heap.size;have:=HSX.out;omega))
      clear qf b1 b1' o1))
 all_goals
  go_wp2
  have y:=zb7 (.int .i64 3) (.string ⟨#[]⟩) (.slice a1 m1 c1) (.string ⟨x.toArray⟩) Q1.out
  have hne:(Value.slice a1 m1 c1).ownBlock≠some w.heap.size:=fun h=>by have:=(O1.out.lt _ h).1;omega
  exact bodyPost_ret (v:=.agg #[.int .i64 3,.string ⟨#[]⟩,.slice a1 m1 c1,.string ⟨x.toArray⟩]) (results_cell_row rfl _ _ w.heap.size 152 _ (0,0) _ rfl y Tryz.underlying152 rfl (by kernel_rfl)) rfl ⟨a1,m1,c1,rfl,by show World.ownsRow _ _ _ _ _ ks.length (zh ks);rw[HK16.out];exact (ze2 O1.out hne _ _ _ _).mono (by omega),zb5 B1.out (Nat.le_refl _) _ _ _ _⟩
theorem zoc (w w':World) (e:Ending) (he:e=.returned (.agg #[.int .i64 0,.string ⟨#[]⟩,.slice none 0 0,.string ⟨#[]⟩])) (hb:Below w.heap.size w w'):zfa w zeroN e w' :=
 ⟨none,0,0,he,World.ownsRow_nil _ _ _ _,hb⟩
theorem zws (a:Option Addr) (cap n:Nat) (w:World) (h17:¬ n=17) (h2:¬ n=2) (hn:n≤1048576) :
 Calls Tryz.prog 131 #[.slice a n cap] w fun e w'=>zfa w zeroN e w':=by
 have B0:Below w.heap.size w (w.alloc (.cells #[.int .i64 0,.string ⟨#[]⟩,.slice none 0 0,.string ⟨#[]⟩] 152)):=(Below.refl _ _).alloc (Nat.le_refl _) _
 have HQ:Hid ((w.alloc (.cells #[.int .i64 0,.string ⟨#[]⟩,.slice none 0 0,.string ⟨#[]⟩] 152)).heap[w.heap.size]? = some (.cells #[.int .i64 0,.string ⟨#[]⟩,.slice none 0 0,.string ⟨#[]⟩] 152 (0,0))):=heap_alloc_new w _
 have BX:Hid _:=B0
 have h17':¬ (n:Int)=17:=by omega
 have h2':¬ (n:Int)=2:=by omega
 have h17b:((n:Int) == 17)=false:=by rw[beq_eq_false_iff_ne];exact h17'
 have h2b:((n:Int) == 2)=false:=by rw[beq_eq_false_iff_ne];exact h2'
 clear B0 h17 h2
 go_enter Tryz.func131,Tryz.ntmps131
 go_wp2
 exact bodyPost_ret (v:=.agg #[.int .i64 0,.string ⟨#[]⟩,.slice none 0 0,.string ⟨#[]⟩]) (results_cell_row rfl _ _ w.heap.size 152 _ (0,0) _ rfl HQ.out Tryz.underlying152 rfl (by kernel_rfl)) rfl (zoc _ _ _ rfl BX.out)
theorem zwt (b off cap:Nat) (x t:List UInt8) (w:World) (hx:x.length≤60000) (hc0:w.cell? ⟨b,off,none⟩=some (.string ⟨x.toArray⟩)) (hc1:w.cell? ⟨b,off+1,none⟩=some (.string ⟨t.toArray⟩)) :
 Calls Tryz.prog 131 #[.slice (some ⟨b,off,none⟩) 2 cap] w fun e w'=>zfa w (zck t (zdd x)) e w':=by
 have B0:Below w.heap.size w (w.alloc (.cells #[.int .i64 0,.string ⟨#[]⟩,.slice none 0 0,.string ⟨#[]⟩] 152)):=(Below.refl _ _).alloc (Nat.le_refl _) _
 have HQ:Hid ((w.alloc (.cells #[.int .i64 0,.string ⟨#[]⟩,.slice none 0 0,.string ⟨#[]⟩] 152)).heap[w.heap.size]? = some (.cells #[.int .i64 0,.string ⟨#[]⟩,.slice none 0 0,.string ⟨#[]⟩] 152 (0,0))):=heap_alloc_new w _
 have BX:Hid _:=B0
 have HL:Hid (w.heap.size<(w.alloc (.cells #[.int .i64 0,.string ⟨#[]⟩,.slice none 0 0,.string ⟨#[]⟩] 152)).heap.size):=by rw[Hid];simp
 have KR:=zx5 x (w.alloc (.cells #[.int .i64 0,.string ⟨#[]⟩,.slice none 0 0,.string ⟨#[]⟩] 152)) hx
 have hbl:=World.block_lt_of_cell? w _ hc1
 have c0:=(B0.cell (p:=⟨b,off,none⟩) hbl).trans hc0
 have HC1:Hid (w.cell? ⟨b,off+1,none⟩=some (.string ⟨t.toArray⟩)∧b<w.heap.size):=⟨hc1,hbl⟩
 obtain⟨o,ho⟩:∃ o,o=zdd x:=⟨_,rfl⟩
 rw[←ho] at KR ⊢
 clear B0 hc0 hc1 hbl ho
 cases o with
 | none =>
   go_enter Tryz.func131,Tryz.ntmps131
   go_wp2_with fail
   refine KR.mono ?_
   rintro e w1 ⟨rfl,b1⟩
   have B1:Hid _:=BX.out.trans (b1.mono BX.out.size)
   have Q1:Hid _:=(b1.block w.heap.size HL.out).trans HQ.out
   obtain⟨q0,q1,q2,q3,qf⟩:=zi Q1.out
   have qf0:=qf 0
   have qf1:=qf 1
   have qf2:=qf 2
   have qf3:=qf 3
   simp only[rdV]
   clear qf b1 KR c0
   go_wp2
   exact bodyPost_ret (v:=.agg #[.int .i64 0,.string ⟨#[]⟩,.slice none 0 0,.string ⟨#[]⟩]) (results_cell_row rfl _ _ w.heap.size 152 _ (0,0) _ rfl (zb7 (.int .i64 0) (.string ⟨#[]⟩) (.slice none 0 0) (.string ⟨#[]⟩) Q1.out) Tryz.underlying152 rfl (by kernel_rfl)) rfl (zoc _ _ _ rfl (zb5 B1.out (Nat.le_refl _) _ _ _ _))
 | some q =>
   obtain⟨y,leaf⟩:=q
   cases leaf with
   | true =>
     go_enter Tryz.func131,Tryz.ntmps131
     go_wp2_with fail
     refine KR.mono ?_
     rintro e w1 ⟨rfl,b1⟩
     have B1:Hid _:=BX.out.trans (b1.mono BX.out.size)
     have Q1:Hid _:=(b1.block w.heap.size HL.out).trans HQ.out
     obtain⟨q0,q1,q2,q3,qf⟩:=zi Q1.out
     have qf0:=qf 0
     have qf1:=qf 1
     have qf2:=qf 2
     have qf3:=qf 3
     have c1:=(B1.out.cell (p:=⟨b,off+1,none⟩) HC1.out.2).trans HC1.out.1
     simp only[rdV]
     clear qf b1 KR c0
     go_wp2
     exact bodyPost_ret (v:=.agg #[.int .i64 1,.string ⟨y.toArray⟩,.slice none 0 0,.string ⟨t.toArray⟩]) (results_cell_row rfl _ _ w.heap.size 152 _ (0,0) _ rfl (zb7 (.int .i64 1) (.string ⟨y.toArray⟩) (.slice none 0 0) (.string ⟨t.toArray⟩) Q1.out) Tryz.underlying152 rfl (by kernel_rfl)) rfl ⟨none,0,0,rfl,World.ownsRow_nil _ _ _ _,zb5 B1.out (Nat.le_refl _) _ _ _ _⟩
   | false =>
     go_enter Tryz.func131,Tryz.ntmps131
     go_wp2_with fail
     refine KR.mono ?_
     rintro e w1 ⟨rfl,b1⟩
     have B1:Hid _:=BX.out.trans (b1.mono BX.out.size)
     have Q1:Hid _:=(b1.block w.heap.size HL.out).trans HQ.out
     have L1:Hid _:=Nat.lt_of_lt_of_le HL.out b1.size
     have c1:=(B1.out.cell (p:=⟨b,off+1,none⟩) HC1.out.2).trans HC1.out.1
     have Q2:Hid ((w1.alloc (.cells #[.string ⟨t.toArray⟩] 9)).heap[w.heap.size]? = some (.cells #[.int .i64 0,.string ⟨#[]⟩,.slice none 0 0,.string ⟨#[]⟩] 152 (0,0))):=(Below.heap_alloc w1 _ w.heap.size L1.out).trans Q1.out
     obtain⟨q0,q1,q2,q3,qf⟩:=zi Q2.out
     have qf0:=qf 0
     have qf1:=qf 1
     have qf2:=qf 2
     have qf3:=qf 3
     simp only[rdV]
     clear qf b1 KR c0
     go_wp2
     have O2:=World.ownsRow_lit (e:=9) (size:=1) w1 #[.string ⟨t.toArray⟩] 1 (base:=w.heap.size+1) (by have:=L1.out;omega) (by decide) rfl
     have hne:(Value.slice (some ⟨w1.heap.size,0,none⟩) 1 1).ownBlock≠some w.heap.size:=by simp[Value.ownBlock];have:=L1.out;omega
     exact bodyPost_ret (v:=.agg #[.int .i64 2,.string ⟨y.toArray⟩,.slice (some ⟨w1.heap.size,0,none⟩) 1 1,.string ⟨#[]⟩]) (results_cell_row rfl _ _ w.heap.size 152 _ (0,0) _ rfl (zb7 (.int .i64 2) (.string ⟨y.toArray⟩) (.slice (some ⟨w1.heap.size,0,none⟩) 1 1) (.string ⟨#[]⟩) Q2.out) Tryz.underlying152 rfl (by kernel_rfl)) rfl ⟨some ⟨w1.heap.size,0,none⟩,1,1,rfl,(ze2 O2 hne _ _ _ _).mono (by omega),zb5 (B1.out.alloc B1.out.size _) (Nat.le_refl _) _ _ _ _⟩
theorem zwu (a:Option Addr) (cap:Nat) (ts:List (List UInt8)) (w:World) (hn:ts.length≤1048576) (hcap:ts.length≤cap) (hm:∀ t∈ts,t.length≤60000) (hs:zt w a ts) :
 Calls Tryz.prog 131 #[.slice a ts.length cap] w fun e w'=>zfa w (zdg ts) e w':=by
 unfold zdg
 by_cases h17:ts.length=17
 · rw[if_pos h17]
   obtain⟨b,off,rfl,hc⟩:=zf9 hs 0 (by omega)
   have:=zwr b off cap ts w h17 (by omega) hs (hc 16 (by omega))
   rw[h17]
   exact this
 · rw[if_neg h17]
   by_cases h2:ts.length=2
   · rw[if_pos h2]
     obtain⟨b,off,rfl,hc⟩:=zf9 hs 0 (by omega)
     have:=zwt b off cap (ts.getD 0 []) (ts.getD 1 []) w (zep ts hm 0) (hc 0 (by omega)) (hc 1 (by omega))
     rw[h2]
     exact this
   · rw[if_neg h2]
     exact zws a cap ts.length w h17 h2 hn
theorem zbz {P:Program} {fn:Func} {p r:Tmp} {ty:TypeId} (h:fn.results=#[.cell p ty,.tmp r]) (tmps:Array Value) (w:World) (g:Nat) (t:TypeId) (cs:Array Value) (d:TypeDesc)
 (hp:tmps.getD p undef=.pointer (some ⟨g,0,none⟩)) (hg:w.heap[g]? = some (.cells cs t (0,0))) (hu:P.underlying ty=some d) (hd:(match d with | .struct _ | .array _ _=>true | _=>false)=true) (hi:(P.info? ty).map (·.size)=some cs.size) (vb:Value) (hb:tmps.getD r undef=vb) :
 (results fn tmps).run P w=.ok (.tuple #[.agg cs,vb]) w:=by
 subst hb
 have hp':tmps[p]?.getD undef=.pointer (some ⟨g,0,none⟩):=by simpa using hp
 simp[results,h,hp',asAddr,run_loadVar_row w g t ty cs (0,0) d hg hu hd hi]
def zd3 (w:World) (o:Option NodeL) (e:Ending) (w':World):Prop :=
 ∃ (a:Option Addr) (m c:Nat),e=.returned (.tuple #[.agg #[.int .i64 (o.getD zeroN).k,.string ⟨(o.getD zeroN).p.toArray⟩,.slice a m c,.string ⟨(o.getD zeroN).v.toArray⟩],.bool o.isSome])∧w'.ownsRow w.heap.size 9 1 (.slice a m c) (o.getD zeroN).ls.length (zh (o.getD zeroN).ls)∧Below w.heap.size w w'
theorem zwv (s:List UInt8) (w:World) (hl:s.length≤1048576) :
 Calls Tryz.prog 97 #[.string ⟨s.toArray⟩] w fun e w'=>zd3 w (za1 s) e w':=by
 have B0:Below w.heap.size w (w.alloc (.cells #[.int .i64 0,.string ⟨#[]⟩,.slice none 0 0,.string ⟨#[]⟩] 152)):=(Below.refl _ _).alloc (Nat.le_refl _) _
 have HQ:Hid ((w.alloc (.cells #[.int .i64 0,.string ⟨#[]⟩,.slice none 0 0,.string ⟨#[]⟩] 152)).heap[w.heap.size]? = some (.cells #[.int .i64 0,.string ⟨#[]⟩,.slice none 0 0,.string ⟨#[]⟩] 152 (0,0))):=heap_alloc_new w _
 have BX:Hid _:=B0
 have HL:Hid (w.heap.size<(w.alloc (.cells #[.int .i64 0,.string ⟨#[]⟩,.slice none 0 0,.string ⟨#[]⟩] 152)).heap.size):=by rw[Hid];simp
 have KT:=zwp s (w.alloc (.cells #[.int .i64 0,.string ⟨#[]⟩,.slice none 0 0,.string ⟨#[]⟩] 152)) hl
 obtain⟨o,ho⟩:∃ o,o=za1 s:=⟨_,rfl⟩
 rw[←ho]
 cases ht:zbc s with
 | none =>
   rw[ht] at KT
   have HZ:Hid (o=none):=by rw[Hid,ho];simp only[za1,ht]
   clear ht ho B0
   go_enter Tryz.func97,Tryz.ntmps97
   go_wp2_with fail
   refine KT.mono ?_
   rintro e w1 ⟨rfl,b1⟩
   have B1:Hid _:=BX.out.trans (b1.mono BX.out.size)
   have Q1:Hid _:=(b1.block w.heap.size HL.out).trans HQ.out
   obtain⟨q0,q1,q2,q3,qf⟩:=zi Q1.out
   have qf0:=qf 0
   have qf1:=qf 1
   have qf2:=qf 2
   have qf3:=qf 3
   clear qf b1 KT
   go_wp2
   exact bodyPost_ret (v:=.tuple #[.agg #[.int .i64 0,.string ⟨#[]⟩,.slice none 0 0,.string ⟨#[]⟩],.bool false]) (zbz rfl _ _ w.heap.size 152 _ _ rfl (zb7 (.int .i64 0) (.string ⟨#[]⟩) (.slice none 0 0) (.string ⟨#[]⟩) Q1.out) Tryz.underlying152 rfl (by kernel_rfl) (.bool false) rfl) rfl (by rw[HZ.out];exact⟨none,0,0,rfl,World.ownsRow_nil _ _ _ _,zb5 B1.out (Nat.le_refl _) _ _ _ _⟩)
 | some ts =>
   rw[ht] at KT
   have hts:=zgo s ts ht
   have HO:Hid (o=zd8 s (zdg ts)):=by rw[Hid,ho];simp only[za1,ht]
   have hsm:=(zkp ts hts.2).1
   have HKN:Hid (∀ W a c,ts.length≤c→zt W a ts→Calls Tryz.prog 131 #[.slice a ts.length c] W fun e w'=>zfa W (zdg ts) e w'):=fun W a c h1 h2=>zwu a c ts W (by have:=hts.1;omega) h1 hts.2 h2
   obtain⟨n,hn⟩:∃ n,n=zdg ts:=⟨_,rfl⟩
   rw[←hn] at HO HKN hsm
   have HKT:Hid (∀ W a c,zt W a n.ls→Calls Tryz.prog 132 #[.agg #[.int .i64 n.k,.string ⟨n.p.toArray⟩,.slice a n.ls.length c,.string ⟨n.v.toArray⟩]] W fun e w'=>e=.returned (.tuple #[.string ⟨n.text.toArray⟩,.bool n.ok])∧Below W.heap.size W w'):=fun W a c h=>zwo n.k n.p a c n.ls n.v W hsm.1 hsm.2.1 hsm.2.2.1 hsm.2.2.2 h
   have HK1:Hid (n.ok=true→n.text=s→o=some n):=fun h1 h2=>by rw[HO.out,zkm s n h1 h2]
   have HK2:Hid (n.ok=false→o=none):=fun h1=>by rw[HO.out,zeo s n h1]
   have HK3:Hid (¬ n.text=s→o=none):=fun h1=>by rw[HO.out,zkn s n h1]
   obtain⟨tx,htx⟩:∃ tx,tx=n.text:=⟨_,rfl⟩
   obtain⟨ok,hok⟩:∃ ok,ok=n.ok:=⟨_,rfl⟩
   rw[←htx,←hok] at HKT
   rw[←hok] at HK1 HK2
   rw[←htx] at HK1 HK3
   obtain⟨k,p,ls,v⟩:=n
   simp only at HKT
   clear ht ho B0 hts hsm hn htx hok HO
   go_enter Tryz.func97,Tryz.ntmps97
   go_wp2_with fail
   refine KT.mono ?_
   rintro e w1 ⟨a1,c1,rfl,o1,b1,hc1⟩
   have B1:Hid _:=BX.out.trans (b1.mono BX.out.size)
   have Q1:Hid _:=(b1.block w.heap.size HL.out).trans HQ.out
   have L1:Hid _:=Nat.lt_of_lt_of_le HL.out b1.size
   have K2:=HKN.out w1 a1 c1 hc1 (zc8 o1).2.2
   clear KT o1 b1 hc1 HKN
   go_wp2_with fail
   refine K2.mono ?_
   rintro e w2 ⟨a2,m2,c2,rfl,o2,b2⟩
   simp only at o2 ⊢
   obtain⟨rfl,_,is2⟩:=zc8 o2
   have B2:Hid _:=B1.out.trans (b2.mono B1.out.size)
   have Q2:Hid _:=(b2.block w.heap.size L1.out).trans Q1.out
   have L2:Hid _:=Nat.lt_of_lt_of_le L1.out b2.size
   have O2:=zc (o2.mono (by have:=L1.out;omega:w.heap.size+1≤w1.heap.size))
   have BA:Hid (Below w2.heap.size w2 (w2.alloc (.cells #[.int .i64 k,.string ⟨p.toArray⟩,.slice a2 ls.length c2,.string ⟨v.toArray⟩] 152))):=(Below.refl _ _).alloc (Nat.le_refl _) _
   have QA:Hid ((w2.alloc (.cells #[.int .i64 k,.string ⟨p.toArray⟩,.slice a2 ls.length c2,.string ⟨v.toArray⟩] 152)).heap[w2.heap.size]? = some (.cells #[.int .i64 k,.string ⟨p.toArray⟩,.slice a2 ls.length c2,.string ⟨v.toArray⟩] 152 (0,0))):=heap_alloc_new w2 _
   have ZA:Hid ((w2.alloc (.cells #[.int .i64 k,.string ⟨p.toArray⟩,.slice a2 ls.length c2,.string ⟨v.toArray⟩] 152)).heap.size=w2.heap.size+1):=by rw[Hid];simp
   have K3:=HKT.out (w2.alloc (.cells #[.int .i64 k,.string ⟨p.toArray⟩,.slice a2 ls.length c2,.string ⟨v.toArray⟩] 152)) a2 c2 (zay is2 BA.out)
   clear K2 o2 b2 is2 HKT
   go_wp2_with fail
   refine K3.mono ?_
   rintro e w3 ⟨rfl,b3⟩
   have B2a:=B2.out.trans (BA.out.mono B2.out.size)
   have B3:Hid _:=B2a.trans (b3.mono B2a.size)
   have Q3:Hid (w3.heap[w.heap.size]? = some (.cells #[.int .i64 0,.string ⟨#[]⟩,.slice none 0 0,.string ⟨#[]⟩] 152 (0,0))):=(b3.block w.heap.size (by have:=ZA.out;have:=L2.out;omega)).trans ((BA.out.block w.heap.size L2.out).trans Q2.out)
   have R3:Hid (w3.heap[w2.heap.size]? = some (.cells #[.int .i64 k,.string ⟨p.toArray⟩,.slice a2 ls.length c2,.string ⟨v.toArray⟩] 152 (0,0))):=(b3.block w2.heap.size (by have:=ZA.out;omega)).trans QA.out
   have O3:=zc (zg6 (zg6 O2.out BA.out) b3)
   obtain⟨q0,q1,q2,q3,qf⟩:=zi Q3.out
   have qf0:=qf 0
   have qf1:=qf 1
   have qf2:=qf 2
   have qf3:=qf 3
   obtain⟨r0,r1,r2,r3,rf⟩:=zi R3.out
   have rf0:=rf 0
   have rf1:=rf 1
   have rf2:=rf 2
   have rf3:=rf 3
   clear qf rf b3 B2a K3
   cases ok with
   | false =>
     have HZ:Hid _:=HK2.out rfl
     clear HK1 HK2 HK3
     go_wp2
     exact bodyPost_ret (v:=.tuple #[.agg #[.int .i64 0,.string ⟨#[]⟩,.slice none 0 0,.string ⟨#[]⟩],.bool false]) (zbz rfl _ _ w.heap.size 152 _ _ rfl (zb7 (.int .i64 0) (.string ⟨#[]⟩) (.slice none 0 0) (.string ⟨#[]⟩) Q3.out) Tryz.underlying152 rfl (by kernel_rfl) (.bool false) rfl) rfl (by rw[HZ.out];exact⟨none,0,0,rfl,World.ownsRow_nil _ _ _ _,zb5 B3.out (Nat.le_refl _) _ _ _ _⟩)
   | true =>
     by_cases hts:tx=s
     · subst hts
       have HZ:Hid _:=HK1.out rfl rfl
       clear HK1 HK2 HK3
       go_wp2
       have hne:(Value.slice a2 ls.length c2).ownBlock≠some w.heap.size:=fun h=>by have:=(O3.out.lt _ h).1;omega
       exact bodyPost_ret (v:=.tuple #[.agg #[.int .i64 k,.string ⟨p.toArray⟩,.slice a2 ls.length c2,.string ⟨v.toArray⟩],.bool true]) (zbz rfl _ _ w.heap.size 152 _ _ rfl (zb7 (.int .i64 k) (.string ⟨p.toArray⟩) (.slice a2 ls.length c2) (.string ⟨v.toArray⟩) Q3.out) Tryz.underlying152 rfl (by kernel_rfl) (.bool true) rfl) rfl (by rw[HZ.out];exact⟨a2,ls.length,c2,rfl,(ze2 O3.out hne _ _ _ _).mono (by omega),zb5 B3.out (Nat.le_refl _) _ _ _ _⟩)
     · have HZ:Hid _:=HK3.out hts
       have htb:(tx == s)=false:=by rw[beq_eq_false_iff_ne];exact hts
       clear HK1 HK2 HK3
       go_wp2
       exact bodyPost_ret (v:=.tuple #[.agg #[.int .i64 0,.string ⟨#[]⟩,.slice none 0 0,.string ⟨#[]⟩],.bool false]) (zbz rfl _ _ w.heap.size 152 _ _ rfl (zb7 (.int .i64 0) (.string ⟨#[]⟩) (.slice none 0 0) (.string ⟨#[]⟩) Q3.out) Tryz.underlying152 rfl (by kernel_rfl) (.bool false) rfl) rfl (by rw[HZ.out];exact⟨none,0,0,rfl,World.ownsRow_nil _ _ _ _,zb5 B3.out (Nat.le_refl _) _ _ _ _⟩)
end Go.Proofs.YtppljdnbhoeeoaaGreatDoor
