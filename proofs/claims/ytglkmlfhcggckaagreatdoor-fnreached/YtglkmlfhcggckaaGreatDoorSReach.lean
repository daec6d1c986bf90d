/-
 What a root leads to in a store, on lists and of the model (l7Reached, Reached).
-/
import Derived.Test.YtglkmlfhcggckaaGreatDoorReachM
import Derived.Test.YtglkmlfhcggckaaGreatDoorSTexts
import Derived.Deep.CutRange
import Derived.Test.YtglkmlfhcggckaaGreatDoorStepAll
namespace Go.Proofs.YtglkmlfhcggckaaGreatDoor
open Go.RowKit
set_option linter.unusedVariables false
def kidsW (ps:List PairL) (h:Bs):List Bs:=((findL ps h).map fun t=>(nodeAt t).ls.filter (fun x => !x.isEmpty)).getD []
def thereN (ps:List PairL) (h:Bs):Bool:=(findL ps h).isSome
noncomputable def reachR (ps:List PairL) (root:Bs):Option (List Bs):=if root=emptyL then some [] else if allB (kidsW ps) (thereN ps) root=true then some (ledL (kidsW ps) root) else none
noncomputable def reachedR (ps:List PairL) (root:Bs):Option (List Bs):=if storeOkL ps=true then reachR ps root else none
theorem there_mem (ps:List PairL) (x:Bs) (h:thereN ps x=true):x∈ps.map (·.1):=by
 unfold thereN findL at h
 rw[Option.isSome_map] at h
 obtain⟨p,hp⟩:=Option.isSome_iff_exists.1 h
 have h1:=List.find?_some hp
 exact List.mem_map.2 ⟨p,List.mem_of_find?_eq_some hp,by simpa using h1⟩
theorem out_le {ps:List PairL} {R:Bs→Prop} {out todo:List Bs} (h:SrchR (kidsW ps) (thereN ps) R out todo):out.length≤ps.length:=by
 have:=srch_len h (ps.map (·.1)) (there_mem ps)
 simpa using this
theorem kidsW_some {ps:List PairL} {h t:Bs} {k:Int} {q x:List UInt8} {ls:List Bs} (hf:findL ps h=some t) (hn:nodeAt t=⟨k,q,ls,x⟩):kidsW ps h=ls.filter (fun x => !x.isEmpty):=by
 unfold kidsW
 rw[hf]
 simp only[Option.map_some,Option.getD_some,hn]
theorem filter_step {ls:List Bs} {j:Nat} (hj:j<ls.length):(ls.take (j+1)).filter (fun x => !x.isEmpty)=(ls.take j).filter (fun x => !x.isEmpty) ++ (if (ls.getD j []).isEmpty=true then [] else [ls.getD j []]):=by
 rw[List.take_succ_eq_append_getElem hj,List.filter_append]
 congr 1
 have:ls.getD j []=ls[j]:=by simp[hj]
 rw[this]
 cases h:(ls[j]).isEmpty <;> simp[h]
theorem hidTodo {lo:Nat} {w:World} {xs:List Bs} {b:Nat} (h:∀ ao,TodoAt lo w (.slice ao xs.length 0) xs b):Hid (∀ ao,TodoAt lo w (.slice ao xs.length 0) xs b):=h
structure KeptT (w w':World) (b:Nat):Prop where
 os:w'.os=w.os
 tape:w'.tape=w.tape
 output:w'.output=w.output
 size:w.heap.size≤w'.heap.size
 block:∀ k,k<w.heap.size→k≠b→w'.heap[k]? = w.heap[k]?
theorem KeptT.refl (w:World) (b:Nat):KeptT w w b:=⟨rfl,rfl,rfl,Nat.le_refl _,fun _ _ _=>rfl⟩
theorem KeptT.alloc {w w':World} {b:Nat} (h:KeptT w w' b) (o:Obj):KeptT w (w'.alloc o) b:=⟨h.os,h.tape,h.output,by simp;have:=h.size;omega,fun k h1 h2=>(Below.heap_alloc _ _ _ (Nat.lt_of_lt_of_le h1 h.size)).trans (h.block k h1 h2)⟩
theorem KeptT.next {w w1 w2:World} {b:Nat} (h:KeptT w w1 b) (h1:w2.os=w1.os) (h2:w2.tape=w1.tape) (h3:w2.output=w1.output) (h4:w1.heap.size≤w2.heap.size) (h5:∀ k,k<w.heap.size→k≠b→w2.heap[k]? = w1.heap[k]?):KeptT w w2 b :=
 ⟨h1.trans h.os,h2.trans h.tape,h3.trans h.output,Nat.le_trans h.size h4,fun k a1 a2=>(h5 k a1 a2).trans (h.block k a1 a2)⟩
theorem KeptT.belowT {w0 w w':World} {b:Nat} (h:KeptT w w' b) (hb:Below w0.heap.size w0 w) (hl:w0.heap.size≤b):Below w0.heap.size w0 w' :=
 ⟨h.os.trans hb.os,h.tape.trans hb.tape,h.output.trans hb.output,Nat.le_trans hb.size h.size,fun k hk=>(h.block k (Nat.lt_of_lt_of_le hk hb.size) (by omega)).trans (hb.block k hk)⟩
theorem own_blockR {w w':World} {base e size n:Nat} {v:Value} {xs:List Value} (h:w.ownsRow base e size v n xs) (hk:∀ q,v.ownBlock=some q→w'.heap[q]? = w.heap[q]?):w'.ownsRow base e size v n xs:=by
 refine⟨h.1,?_⟩
 rcases h.2 with hn | ⟨g,cap,cur,rfl,hb,hgg,rest⟩
 · exact .inl hn
 · exact .inr ⟨g,cap,cur,rfl,hb,(hk g rfl).trans hgg,rest⟩
theorem one_cellT {w:World} {b:Nat} {u:Value} {t:TypeId} (h:w.heap[b]? = some (.cells #[u] t (0,0))):w.cell? ⟨b,0,none⟩=some u:=by simp[World.cell?,h]
def RPost (w:World) (res:Option (List Bs)) (e:Ending) (w':World):Prop:=∃ (a:Option Addr) (m c:Nat),e=.returned (.tuple #[.slice a m c,.bool res.isSome])∧w'.ownsRow w.heap.size 9 1 (.slice a m c) (res.getD []).length (scells (res.getD []))∧Below w.heap.size w w'
theorem rp_none {w w':World} {res:Option (List Bs)} (h:res=none) (hb:Below w.heap.size w w'):RPost w res (.returned (.tuple #[.slice none 0 0,.bool false])) w':=by
 subst h
 exact⟨none,0,0,rfl,World.ownsRow_nil _ _ _ _,hb⟩
def RPostN (w:World) (res:Option (List Bs)) (e:Ending) (w':World):Prop:=∃ (a:Option Addr) (m c:Nat),e=.returned (.tuple #[.slice a m c,.bool res.isSome])∧(res.isSome=true→∃ g,a=some ⟨g,0,none⟩)∧w'.ownsRow w.heap.size 9 1 (.slice a m c) (res.getD []).length (scells (res.getD []))∧Below w.heap.size w w'
theorem rpn_none {w w':World} {res:Option (List Bs)} (h:res=none) (hb:Below w.heap.size w w'):RPostN w res (.returned (.tuple #[.slice none 0 0,.bool false])) w':=by
 subst h
 exact⟨none,0,0,rfl,(fun h=>by cases h),World.ownsRow_nil _ _ _ _,hb⟩
theorem mem_take_succ {out:List Bs} {j:Nat} (hj:j<out.length) (x:Bs):x∈out.take (j+1)↔x∈out.take j∨out[j]=x:=by
 rw[List.take_succ_eq_append_getElem hj,List.mem_append,List.mem_singleton]
 exact⟨fun h=>h.imp id Eq.symm,fun h=>h.imp id Eq.symm⟩
set_option maxRecDepth 100000 in
set_option maxHeartbeats 8000000 in
theorem spec_l7ReachedN (a : Option Addr) (cap : Nat) (ps : List PairL) (root : Bs) (w : World) (hl : ps.length ≤ 1048576) (h400 : ps.length ≤ 400) (hm : ∀ p ∈ ps, p.1.length ≤ 1048576 ∧ p.2.length ≤ 1048576) (hs : IsPairs w a ps) (hst : storeOkL ps = true) :
 Calls Tryz.prog 20 #[.slice a ps.length cap,.string ⟨root.toArray⟩] w fun e w'=>RPostN w (reachR ps root) e w':=by
 obtain⟨i0,hi0,hz0,hz1,hz2⟩:=info_parts info9t
 have HS:Hid (∀ W,Below w.heap.size w W→IsPairs W a ps):=fun W hW=>hs.later hW
 have HM:Hid (∀ p∈ps,p.1.length≤1048576∧p.2.length≤1048576):=hm
 have HST:Hid (storeOkL ps=true):=hst
 have HR0:Hid (root=emptyL→reachR ps root=some []):=fun h=>if_pos h
 have HRY:Hid (¬ root=emptyL→∀ out,Srch (kidsW ps) (thereN ps) root out []→reachR ps root=some (textsR out)):=fun h out hs=>by
  obtain⟨h1,h2⟩:=led_end hs
  unfold reachR
  rw[if_neg h,if_pos h2,h1]
 have HRN:Hid (¬ root=emptyL→∀ out todo x,Srch (kidsW ps) (thereN ps) root out todo→x∈todo→thereN ps x=false→reachR ps root=none):=fun h out todo x hs hx ht=>by
  unfold reachR
  rw[if_neg h,if_neg]
  rw[all_no (srch_lost hs x hx ht)]
  simp
 obtain⟨em,hem⟩:∃ em,em=emptyL:=⟨_,rfl⟩
 have KE:=fun W=>spec_empty W
 obtain⟨res,hres⟩:∃ res,res=reachR ps root:=⟨_,rfl⟩
 rw[←hem] at KE HR0 HRY HRN
 rw[←hres] at HR0 HRY HRN ⊢
 have B0:Below w.heap.size w ((w.alloc (.cells #[] 9)).alloc (.cells #[.string ⟨root.toArray⟩] 9)):=((Below.refl _ _).alloc (Nat.le_refl _) _).alloc (by simp) _
 have O0:Hid (((w.alloc (.cells #[] 9)).alloc (.cells #[.string ⟨root.toArray⟩] 9)).ownsRow w.heap.size 9 1 (.slice (some ⟨w.heap.size,0,none⟩) 0 0) 0 (scells [])):=(World.ownsRow_lit (e:=9) (size:=1) w #[] 0 (base:=w.heap.size) (Nat.le_refl _) (Nat.zero_le _) rfl).alloc _
 have T0:Hid (TodoAt w.heap.size ((w.alloc (.cells #[] 9)).alloc (.cells #[.string ⟨root.toArray⟩] 9)) (.slice (some ⟨w.heap.size+1,0,none⟩) 1 1) [root] (w.heap.size+1)):=by
  have:=todo_start w.heap.size (w.alloc (.cells #[] 9)) root (by simp)
  have e:(w.alloc (.cells #[] 9)).heap.size=w.heap.size+1:=by simp
  rw[e] at this
  exact this
 clear hs hm hst hres hem
 by_cases he:root=em
 · have HN:Hid (res=some []):=HR0.out he
   subst he
   clear HR0 HRY HRN
   go_enter Tryz.func20,Tryz.ntmps20
   go_wp2_with fail
   refine (KE _).mono ?_
   rintro e w1 ⟨rfl,b1⟩
   have B1:=B0.trans (b1.mono B0.size)
   have O1:=hidOwn (kept1 O0.out b1)
   go_wp2
   go_ret2
   rw[HN.out]
   exact⟨_,_,_,rfl,fun _=>⟨_,rfl⟩,O1.out,B1⟩
 · have heb : (root == em) = false := by rw [beq_eq_false_iff_ne]; exact he
   have HY:Hid (∀ out,Srch (kidsW ps) (thereN ps) root out []→res=some (textsR out)):=HRY.out he
   have HNO:Hid (∀ out todo x,Srch (kidsW ps) (thereN ps) root out todo→x∈todo→thereN ps x=false→res=none):=HRN.out he
   clear HR0 HRY HRN he
   go_enter Tryz.func20,Tryz.ntmps20
   go_wp2_with fail
   refine (KE _).mono ?_
   rintro e w1 ⟨rfl,b1⟩
   have B1:=B0.trans (b1.mono B0.size)
   have O1:=hidOwn (kept1 O0.out b1)
   have T1:Hid (TodoAt w.heap.size w1 (.slice (some ⟨w.heap.size+1,0,none⟩) 1 1) [root] (w.heap.size+1)):=T0.out.later (b1.block _ T0.out.lt) b1.size
   clear KE B0 O0 T0 b1
   go_wp2
   go_loopw [6,7,8,9,10,11,12,13,14,15] (fun v6 v7 _ _ _ _ _ _ _ _ wr=>∃ (out todo:List Bs) (g c b:Nat),v6=.slice (some ⟨g,0,none⟩) out.length c∧Hid (wr.ownsRow w.heap.size 9 1 (.slice (some ⟨g,0,none⟩) out.length c) out.length (scells out))∧Hid (TodoAt w.heap.size wr v7 todo b)∧g≠b∧Hid (Srch (kidsW ps) (thereN ps) root out todo)∧todo.length≤16*out.length+1∧Hid (Below w.heap.size w wr)) (fun v6 v7 _ _ _ _ _ _ _ _ _=>(ps.length - vlen v6)*17+vlen v7)
   case atStart=>exact⟨[],[root],w.heap.size,0,w.heap.size+1,rfl,O1,T1,by omega,srch_start _ _ _,by simp,B1⟩
   case round =>
    obtain⟨out,todo,g,c,b,rfl,HO,HT,hgb,HSR,htl,HB⟩:=hrel
    have hsz:=HB.out.size
    have hol:=out_le HSR.out
    cases todo with
    | nil =>
      obtain⟨ao,off,cp,hv7,_,_⟩:=HT.out.ex
      subst hv7
      have HN:Hid (res=some (textsR out)):=HY.out out HSR.out
      have KT:=spec_l7Texts (some ⟨g,0,none⟩) c out wr (by omega) (strs_own HO.out).2.2
      clear HY HNO HSR HT HO
      go_wp2_with fail
      refine KT.mono ?_
      rintro e w2 ⟨g2,c2,rfl,o2,b2⟩
      have B2:=HB.out.trans (b2.mono hsz)
      have O2:=hidOwn (o2.mono hsz)
      clear KT o2 b2
      go_wp2
      go_ret2
      rw[HN.out]
      exact⟨_,_,_,rfl,fun _=>⟨_,rfl⟩,O2.out,B2⟩
    | cons x xs =>
      obtain⟨off,cp,rfl,hcp,hbl,hcell,hdrop,hdrop0⟩:=HT.out.head
      have hlen0:(0:Int)<(xs.length:Int)+1:=by omega
      obtain⟨wo,hwo⟩:∃ wo,wo=wr:=⟨_,rfl⟩
      rw[←hwo] at HO HT HB hsz hbl hcell hdrop hdrop0
      subst hwo
      go_upto_region 7 with fail
      go_cut [7] from 23 to 84 (fun v7 wx=>wx=wo∧Hid (TodoAt w.heap.size wo v7 xs b))
      case first =>
       by_cases hc1:cp=1
       · obtain rfl:xs=[]:=List.length_eq_zero_iff.1 (by omega)
         subst hc1
         have hd0:=hidTodo (hdrop0 rfl)
         clear hdrop hdrop0 HT HO HSR HY HNO
         go_wp2
         go_meet
         case rel=>exact⟨rfl,hd0.out _⟩
       · have hd1:Hid (TodoAt w.heap.size wo (.slice (some ⟨b,off+1,none⟩) xs.length (cp - 1)) xs b):=hdrop
         have hcp1:(1:Int)≤(cp:Int):=by omega
         clear hdrop hdrop0 HT HO HSR HY HNO
         go_wp2
         go_meet
         case rel=>exact⟨rfl,hd1⟩
      case rest =>
       obtain⟨rfl,HT7⟩:=hcut
       obtain⟨ao,off7,cp7,hv7,_,_⟩:=HT7.out.ex
       subst hv7
       go_wp2
       go_loopw [9,10] (fun v9 v10 wi=>∃ (j:Nat) (od:Bool),j≤out.length∧v10=.int .i64 (j:Int)∧v9=.bool od∧Hid (od=true↔x∈out.take j)∧wi=wc) (fun _ v10 _=>out.length - (intOf v10).toNat)
       case atStart=>exact⟨0,false,Nat.zero_le _,rfl,rfl,by simp[Hid],rfl⟩
       case round =>
        obtain⟨j,od,hj,rfl,rfl,HOD,hwr⟩:=hrel
        subst hwr
        have hj0:(0:Int)≤(j:Int):=by omega
        by_cases hlt:j<out.length
        · have hji : (j : Int) < (out.length : Int) := by omega
          have dj:wr.cell? ⟨g,j,none⟩=some (.string ⟨out[j].toArray⟩):=by
           have:=HO.out.cellAt j (by omega)
           rw[this]
           simp[scells,hlt]
          have HM1:=mem_take_succ hlt x
          obtain⟨y,hy⟩:∃ y,y=out[j]:=⟨_,rfl⟩
          rw[←hy] at dj HM1
          clear hy
          cases od with
          | true =>
            have H1:Hid (true=true↔x∈out.take (j+1)):=⟨fun _=>HM1.2 (.inl (HOD.out.1 rfl)),fun _=>rfl⟩
            clear HM1 HOD
            go_wp2
            go_roundw
            case rel=>exact⟨j+1,true,by omega,by go_num,rfl,H1,by first | exact trivial | rfl⟩
            case measure=>simp[intOf];omega
          | false =>
            by_cases hyx:y=x
            · have H1:Hid (true=true↔x∈out.take (j+1)):=⟨fun _=>HM1.2 (.inr hyx),fun _=>rfl⟩
              have hyb:(y == x)=true:=by rw[beq_iff_eq];exact hyx
              clear HM1 HOD
              subst hyx
              go_wp2
              go_roundw
              case rel=>exact⟨j+1,true,by omega,by go_num,rfl,H1,by first | exact trivial | rfl⟩
              case measure=>simp[intOf];omega
            · have H1:Hid (false=true↔x∈out.take (j+1)):=⟨fun h=>absurd h (by decide),fun h=>by
               rcases HM1.1 h with h | h
               · exact absurd (HOD.out.2 h) (by decide)
               · exact absurd h hyx⟩
              have hyb:(y == x)=false:=by rw[beq_eq_false_iff_ne];exact hyx
              clear HM1 HOD
              go_wp2
              go_roundw
              case rel=>exact⟨j+1,false,by omega,by go_num,rfl,H1,by first | exact trivial | rfl⟩
              case measure=>simp[intOf];omega
        · obtain rfl : j = out.length := by omega
          have hji:¬ (out.length:Int)<(out.length:Int):=by omega
          have hod:=HOD.out
          rw[List.take_length] at hod
          clear HOD
          cases od with
          | true =>
            have HS2:Hid (Srch (kidsW ps) (thereN ps) root out xs):=srch_old HSR.out x (hod.1 rfl) (fun y hy=>List.mem_cons_of_mem _ hy) (fun y hy=>List.mem_cons.1 hy)
            have htl2:xs.length≤16*out.length+1:=by simp only[List.length_cons] at htl;omega
            clear hod HY HNO HSR
            go_wp2
            go_roundw
            case rel=>exact⟨out,xs,g,c,b,rfl,HO,HT7,hgb,HS2,htl2,HB⟩
            case measure=>simp[vlen]
          | false =>
            have hno:x ∉ out:=fun h=>absurd (hod.2 h) (by decide)
            have KF:=spec_l6Find a cap ps x wr hl (HS.out wr HB.out)
            cases hfd:findL ps x with
            | none =>
              have HN:Hid (res=none):=HNO.out out (x :: xs) x HSR.out (by simp) (by unfold thereN;rw[hfd];rfl)
              rw[hfd] at KF
              simp only[Option.getD_none,Option.isSome_none] at KF
              clear hfd hno hod HY HNO HSR
              go_wp2_with fail
              refine KF.mono ?_
              rintro e w3 ⟨rfl,b3⟩
              have B3:=HB.out.trans (b3.mono hsz)
              go_wp2
              go_ret2
              exact rpn_none HN.out B3
            | some t =>
              have htl3:=findL_small ps HM.out x t hfd
              obtain⟨_,_,_,_,htr⟩:=findL_ok ps HST.out x t hfd
              have hok:=nodeAt_ok t htr
              have HKR:Hid (∀ W,Calls Tryz.prog 36 #[.string ⟨t.toArray⟩] W fun e w'=>ReadPost W (readNode t) e w'):=fun W=>spec_readNode t W htl3
              obtain⟨nd,hnd⟩:∃ nd,nd=nodeAt t:=⟨_,rfl⟩
              obtain⟨k,q,ls,z⟩:=nd
              have HRP:Hid (∀ W W' e,ReadPost W (readNode t) e W'→∃ (a:Option Addr) (c:Nat),e=.returned (.tuple #[.agg #[.int .i64 k,.string ⟨q.toArray⟩,.slice a ls.length c,.string ⟨z.toArray⟩],.bool true])∧W'.ownsRow W.heap.size 9 1 (.slice a ls.length c) ls.length (scells ls)∧Below W.heap.size W W'):=fun W W' e hh=>by
               obtain⟨a9,c9,h1,h2,h3⟩:=read_post hh
               rw[htr,←hnd] at h1
               rw[←hnd] at h2
               exact⟨a9,c9,h1,h2,h3⟩
              rw[←hnd] at hok
              have hl16:ls.length≤16:=by
               rcases (ok_parts _ hok).2.2.2 with ⟨_,h2,_⟩ | ⟨_,_,_,y,h4,_⟩ | ⟨_,_,h3,_⟩
               · rw[show ls=[] from h2];simp
               · rw[show ls=[y] from h4];simp
               · have:ls.length=16:=h3
                 omega
              have HKD:Hid (kidsW ps x=ls.filter (fun x => !x.isEmpty)):=kidsW_some hfd hnd.symm
              have HTX:Hid (thereN ps x=true):=by rw[Hid];unfold thereN;rw[hfd];rfl
              rw[hfd] at KF
              simp only[Option.getD_some,Option.isSome_some] at KF
              clear hfd hok htr hnd hod
              go_wp2_with fail
              refine KF.mono ?_
              rintro e w3 ⟨rfl,b3⟩
              have O3:=hidOwn (kept1 HO.out b3)
              have T3:Hid (TodoAt w.heap.size w3 (.slice ao xs.length cp7) xs b):=HT7.out.later (b3.block _ HT7.out.lt) b3.size
              have B3:Hid (Below w.heap.size w w3):=HB.out.trans (b3.mono hsz)
              have hsz3:w.heap.size≤w3.heap.size:=Nat.le_trans hsz b3.size
              have hb3:b<w3.heap.size:=T3.out.lt
              have hg3:g<w3.heap.size:=(O3.out.lt g (by simp[Value.ownBlock])).2
              clear KF b3
              go_wp2_with (at_builtin;refine wpList_append_lies _ rfl _ _ 27 rfl w.heap.size 9 i0 (.string ⟨#[]⟩) 1 16 Tryz.underlying27 hi0 hz0 hz1 hz2 rfl (by decide) (.slice (some ⟨g,0,none⟩) out.length c) out.length _ rfl (O3.out.alloc _) ⟨w3.heap.size,0,none⟩ 1 1 [.string ⟨x.toArray⟩] rfl rfl (World.news_of_block (cs:=#[.string ⟨x.toArray⟩]) (t:=9) (fr:=(0,0)) (heap_alloc_new w3 _)) (by simp[Value.oneCell']) (by omega) (by unfold maxLen;omega) (by omega) (by simp;omega) (w3.heap.size+1) (by simp) ?_)
              intro g5 cap5 w5 hown5 hgrow5 hat5 hlt5
              have hg5b:g5≠b:=by
               rcases hat5 with h | h
               · simp only[Value.ownBlock,Option.some.injEq] at h
                 omega
               · (try simp at h);omega
              have hs5:w3.heap.size+1≤w5.heap.size:=by have:=hgrow5.size;simp at this;omega
              have T5:Hid (TodoAt w.heap.size w5 (.slice ao xs.length cp7) xs b):=T3.out.later ((hgrow5.block b (by simp;omega) (fun e=>by simp[Value.ownBlock] at e;omega)).trans (heap_alloc_old w3 _ hb3)) (by omega)
              have B5:Hid (Below w.heap.size w w5):=(B3.out.alloc hsz3 _).grown hgrow5 (by simp;omega) (fun q hq=>by simp[Value.ownBlock] at hq;have:=(O3.out.lt g (by simp[Value.ownBlock])).1;omega)
              have O5:Hid (w5.ownsRow w.heap.size 9 1 (.slice (some ⟨g5,0,none⟩) (out.length+1) cap5) (out.length+1) (scells (out ++ [x]))):=by rw[Hid,scells_snoc];exact hown5
              clear hown5 hgrow5 hat5 O3 T3 B3
              go_wp2_with fail
              refine (HKR.out w5).mono ?_
              rintro e w6 h6
              obtain⟨a6,c6,rfl,o6,b6⟩:=HRP.out _ _ _ h6
              have hs6:=b6.size
              have BA:Below w6.heap.size w6 (w6.alloc (.cells #[.int .i64 k,.string ⟨q.toArray⟩,.slice a6 ls.length c6,.string ⟨z.toArray⟩] 53)):=(Below.refl _ _).alloc (Nat.le_refl _) _
              have C7:Below w5.heap.size w5 (w6.alloc (.cells #[.int .i64 k,.string ⟨q.toArray⟩,.slice a6 ls.length c6,.string ⟨z.toArray⟩] 53)):=b6.trans (BA.mono hs6)
              have O7:=hidOwn (kept1 O5.out C7)
              have T7:Hid (TodoAt w.heap.size (w6.alloc (.cells #[.int .i64 k,.string ⟨q.toArray⟩,.slice a6 ls.length c6,.string ⟨z.toArray⟩] 53)) (.slice ao xs.length cp7) xs b):=T5.out.later (C7.block _ T5.out.lt) C7.size
              have B7:Hid (Below w.heap.size w (w6.alloc (.cells #[.int .i64 k,.string ⟨q.toArray⟩,.slice a6 ls.length c6,.string ⟨z.toArray⟩] 53))):=B5.out.trans (C7.mono B5.out.size)
              have Q7:Hid ((w6.alloc (.cells #[.int .i64 k,.string ⟨q.toArray⟩,.slice a6 ls.length c6,.string ⟨z.toArray⟩] 53)).heap[w6.heap.size]? = some (.cells #[.int .i64 k,.string ⟨q.toArray⟩,.slice a6 ls.length c6,.string ⟨z.toArray⟩] 53 (0,0))):=heap_alloc_new w6 _
              have HK7:Hid (∀ j,j<ls.length→∃ bk,a6=some ⟨bk,0,none⟩∧w5.heap.size≤bk∧bk<w6.heap.size∧(w6.alloc (.cells #[.int .i64 k,.string ⟨q.toArray⟩,.slice a6 ls.length c6,.string ⟨z.toArray⟩] 53)).cell? ⟨bk,j,none⟩=some (.string ⟨(ls.getD j []).toArray⟩)):=fun j hj=>by
               rcases own_cases o6 with ⟨hv,h0,_⟩ | ⟨g9,c9,hv,h1,h2,h3,_⟩
               · omega
               · cases hv
                 refine⟨g9,rfl,h1,h2,?_⟩
                 have h4:=h3 j (by simpa using hj)
                 refine (BA.cell (p:=⟨g9,j,none⟩) h2).trans (h4.trans ?_)
                 simp[scells,hj]
              have hb6:b<w6.heap.size:=by have:=T5.out.lt;omega
              have hb5:b<w5.heap.size:=T5.out.lt
              have hg6:g5<w6.heap.size:=by have:=(O5.out.lt g5 (by simp[Value.ownBlock])).2;omega
              clear o6 b6 h6 HKR HRP T5 O5 B5 BA C7 HT HT7 HO HB
              go_wp2
              obtain⟨nb,hnb⟩:∃ nb,nb=w6.heap.size:=⟨_,rfl⟩
              have hW7s:(w6.alloc (.cells #[.int .i64 k,.string ⟨q.toArray⟩,.slice a6 ls.length c6,.string ⟨z.toArray⟩] 53)).heap.size=nb+1:=by rw[hnb];simp
              obtain⟨W7,hW7⟩:∃ W7,W7=(w6.alloc (.cells #[.int .i64 k,.string ⟨q.toArray⟩,.slice a6 ls.length c6,.string ⟨z.toArray⟩] 53)):=⟨_,rfl⟩
              rw[←hW7] at O7 T7 B7 Q7 HK7 hW7s ⊢
              rw[←hnb] at Q7 HK7 hb6 hg6 ⊢
              clear hW7 hnb hs6
              go_loopw [7,15] (fun v7 v15 wi=>∃ (j b':Nat) (td:List Bs),j≤ls.length∧v15=.int .i64 (j:Int)∧Hid (td=xs ++ (ls.take j).filter (fun x => !x.isEmpty))∧td.length≤xs.length+j∧Hid (TodoAt w.heap.size wi v7 td b')∧(b'=b∨nb+1≤b')∧Hid (KeptT W7 wi b)) (fun _ v15 _=>ls.length - (intOf v15).toNat)
              case atStart=>exact⟨0,b,xs,Nat.zero_le _,rfl,by simp[Hid],by omega,T7,.inl rfl,KeptT.refl _ _⟩
              case round =>
               obtain⟨j,b9,td,hj,rfl,HTD,htdl,HTi,hb9,HKi⟩:=hrel
               have hszi:nb+1≤wr.heap.size:=by have:=HKi.out.size;omega
               obtain⟨z0,z1,z2,z3,_⟩:=quad_cells ((HKi.out.block nb (by omega) (by omega)).trans Q7.out)
               obtain⟨ao9,off9,cp9,hv9,_,_⟩:=HTi.out.ex
               subst hv9
               by_cases hlt:j<ls.length
               · have hji:(j:Int)<(ls.length:Int):=by omega
                 have hj0':(0:Int)≤(j:Int):=by omega
                 obtain⟨bk,ha6,hk1,hk2,hkc⟩:=HK7.out j hlt
                 subst ha6
                 have d1:=(World.cell?_of_block (a:=⟨bk,j,none⟩) (HKi.out.block bk (by omega) (by omega))).trans hkc
                 have HF1:=filter_step hlt
                 obtain⟨kid,hkid⟩:∃ kid,kid=ls.getD j []:=⟨_,rfl⟩
                 rw[←hkid] at d1 HF1
                 clear hkid hkc
                 cases hke:kid.isEmpty with
                 | true =>
                   have HTD1:Hid (td=xs ++ (ls.take (j+1)).filter (fun x => !x.isEmpty)):=by rw[Hid,HTD.out,HF1,hke];simp
                   obtain rfl:kid=[]:=List.isEmpty_iff.1 hke
                   clear HF1 HTD hke
                   go_wp2
                   go_roundw
                   case rel=>exact⟨j+1,b9,td,by omega,by go_num,HTD1,by omega,HTi,hb9,HKi⟩
                   case measure=>simp[intOf];omega
                 | false =>
                   have HTD1:Hid (td ++ [kid]=xs ++ (ls.take (j+1)).filter (fun x => !x.isEmpty)):=by rw[Hid,HTD.out,HF1,hke];simp
                   have TA:Hid (TodoAt w.heap.size (wr.alloc (.cells #[.string ⟨kid.toArray⟩] 9)) (.slice ao9 td.length cp9) td b9):=HTi.out.later (Below.heap_alloc _ _ _ HTi.out.lt) (by simp)
                   have KA:Hid (KeptT W7 (wr.alloc (.cells #[.string ⟨kid.toArray⟩] 9)) b):=HKi.out.alloc _
                   have hkl:(wr.alloc (.cells #[.string ⟨kid.toArray⟩] 9)).cell? ⟨wr.heap.size,0,none⟩=some (.string ⟨kid.toArray⟩):=(one_cellT (heap_alloc_new wr (.cells #[.string ⟨kid.toArray⟩] 9)))
                   have hwl:w.heap.size≤(wr.alloc (.cells #[.string ⟨kid.toArray⟩] 9)).heap.size:=by have:=B7.out.size;simp;omega
                   have htn:td.length≤1000000:=by simp only[List.length_cons] at htl;omega
                   clear HF1 HTD
                   go_wp2_with (at_builtin;refine wpList_append_todo rfl _ _ rfl (.slice ao9 td.length cp9) rfl TA.out hwl htn kid wr.heap.size 1 rfl hkl ?_)
                   intro v8 w8 b8 t1 t2 t3 t4 t5 t6 t7
                   have HT8:Hid (TodoAt w.heap.size w8 v8 (td ++ [kid]) b8):=t1
                   have HK8:Hid (KeptT W7 w8 b):=KA.out.next t3 t4 t5 (by simpa using t6) (fun q h1 h2=>t7 q (by have:=KA.out.size;omega) (by rcases hb9 with h | h <;> omega))
                   have hb8:b8=b∨nb+1≤b8:=by
                    rcases t2 with h | h
                    · rw[h];exact hb9
                    · right;rw[h];simp;omega
                   have htd8:(td ++ [kid]).length≤xs.length+(j+1):=by rw[List.length_append];simp;omega
                   clear t1 t2 t3 t4 t5 t6 t7 TA KA
                   go_wp2
                   go_roundw
                   case rel=>exact⟨j+1,b8,td ++ [kid],by omega,by go_num,HTD1,htd8,HT8,hb8,HK8⟩
                   case measure=>simp[intOf];omega
               · obtain rfl:j=ls.length:=by omega
                 have hji:¬ (ls.length:Int)<(ls.length:Int):=by omega
                 have htd:=HTD.out
                 rw[List.take_length,←HKD.out] at htd
                 have HS3:Hid (Srch (kidsW ps) (thereN ps) root (out ++ [x]) td):=by
                  refine srch_new HSR.out x (by simp) hno HTX.out (fun y hy=>?_) (fun y hy=>?_) (fun y hy=>?_)
                  · rw[htd,List.mem_append] at hy
                    exact hy.imp (List.mem_cons_of_mem _) id
                  · rcases List.mem_cons.1 hy with h | h
                    · exact .inl h
                    · exact .inr (by rw[htd];exact List.mem_append_left _ h)
                  · rw[htd];exact List.mem_append_right _ hy
                 have hol2:=out_le HS3.out
                 have hlx:(out ++ [x]).length=out.length+1:=by simp
                 rw[hlx] at hol2
                 have HO9:Hid (wr.ownsRow w.heap.size 9 1 (.slice (some ⟨g5,0,none⟩) (out ++ [x]).length cap5) (out ++ [x]).length (scells (out ++ [x]))):=by
                  rw[Hid,hlx]
                  exact own_blockR O7.out fun q hq=>by
                   simp only[Value.ownBlock,Option.some.injEq] at hq
                   subst hq
                   exact HKi.out.block g5 (by omega) hg5b
                 have HB9:Hid (Below w.heap.size w wr):=HKi.out.belowT B7.out T7.out.low
                 have hgb9:g5≠b9:=by rcases hb9 with h | h <;> omega
                 have htl9:td.length≤16*(out ++ [x]).length+1:=by rw[hlx];simp only[List.length_cons] at htl;omega
                 clear htd HTD
                 go_wp2
                 go_roundw
                 case rel=>exact⟨out ++ [x],td,g5,cap5,b9,by rw[hlx],HO9,HTi,hgb9,HS3,htl9,HB9⟩
                 case measure =>
                  simp only[vlen]
                  omega
theorem spec_l7Reached (a:Option Addr) (cap:Nat) (ps:List PairL) (root:Bs) (w:World) (hl:ps.length≤1048576) (h400:ps.length≤400) (hm:∀ p∈ps,p.1.length≤1048576∧p.2.length≤1048576) (hs:IsPairs w a ps) (hst:storeOkL ps=true) :
 Calls Tryz.prog 20 #[.slice a ps.length cap,.string ⟨root.toArray⟩] w fun e w'=>RPost w (reachR ps root) e w' :=
 (spec_l7ReachedN a cap ps root w hl h400 hm hs hst).mono fun e w' ⟨a,m,c,h1,_,h3,h4⟩=>⟨a,m,c,h1,h3,h4⟩
end Go.Proofs.YtglkmlfhcggckaaGreatDoor
