/-
 Texts that are laid as one: MathNode, INode, ITextN, ITextB, ITextA.
-/
import Derived.Test.YtppljdnbhoeeoaaGreatDoorHexAll
import Derived.Test.YtppljdnbhoeeoaaGreatDoorIListAll
namespace Go.Proofs.YtppljdnbhoeeoaaGreatDoor
open Go.RowKit
set_option linter.unusedVariables false
set_option maxHeartbeats 2000000
set_option maxRecDepth 100000
def zao (l:List UInt8):Bool:=l.isEmpty || decide (l.length=32)
def oneN (l:List UInt8):Nat:=if l.isEmpty=true then 0 else 1
def zb4:List (List UInt8)→Nat
 | []=>0
 | l :: r=>oneN l+zb4 r
def zcf (ls:List (List UInt8)) (v:List UInt8):Bool:=decide (ls.length=16) && (ls.all zao && decide (2≤oneN v+zb4 ls))
def kindOk (k:Int) (p:List UInt8) (ls:List (List UInt8)) (v:List UInt8):Bool :=
 if k=1 then !v.isEmpty && decide (ls.length=0)
 else if k=2 then !p.isEmpty && (v.isEmpty && (decide (ls.length=1) && decide ((ls.getD 0 []).length=32)))
 else if k=3 then p.isEmpty && zcf ls v else false
def zcg (p v:List UInt8):Bool:=decide (p.length≤24) && (zq p && decide (v.length≤60))
def zba (k:Int) (p:List UInt8) (ls:List (List UInt8)) (v:List UInt8):Bool:=zcg p v && kindOk k p ls v
def zhd (k:Int) (p:List UInt8) (ls:List (List UInt8)) (v:List UInt8):List (List UInt8) :=
 if k=1 then [pack (za7 p true),v] else if k=2 then [pack (za7 p false),ls.getD 0 []] else ls ++ [v]
def zbn (k:Int) (p:List UInt8) (ls:List (List UInt8)) (v:List UInt8):List UInt8:=if zba k p ls v=true then za8 (zhd k p ls v) else []
theorem zwi (ls:List (List UInt8)) (l:List UInt8):zb4 (ls ++ [l])=zb4 ls+oneN l:=by
 induction ls with
 | nil=>simp[zb4]
 | cons x r ih=>simp[zb4,ih];omega
theorem zny (ls:List (List UInt8)) (j:Nat) (h:j<ls.length):zb4 (ls.take (j+1))=zb4 (ls.take j)+oneN ls[j]:=by
 rw[List.take_succ_eq_append_getElem h,zwi]
theorem zg7 (l:List UInt8):oneN l≤1:=by unfold oneN;split <;> omega
theorem znz (ls:List (List UInt8)):zb4 ls≤ls.length:=by
 induction ls with
 | nil=>simp[zb4]
 | cons x r ih=>have:=zg7 x;simp[zb4];omega
theorem zo0 (ls:List (List UInt8)) (j:Nat) (h:j<ls.length) (h1:(ls.take j).all zao=true) (h2:zao ls[j]=true):(ls.take (j+1)).all zao=true:=by
 rw[List.take_succ_eq_append_getElem h,List.all_append,h1]
 simp[h2]
theorem zo1 (ls:List (List UInt8)) (j:Nat) (h:j<ls.length) (h2:zao ls[j]=false):ls.all zao=false:=by
 rw[List.all_eq_false]
 exact⟨ls[j],List.getElem_mem _,by simp[h2]⟩
theorem zo2 (ls:List (List UInt8)) (h:ls.all zao=true):ls.flatten.length≤32*ls.length:=by
 induction ls with
 | nil=>simp
 | cons x r ih =>
   simp only[List.all_cons,Bool.and_eq_true] at h
   have h1:=ih h.2
   have h2:x.length≤32:=by
    have:=h.1
    simp only[zao,Bool.or_eq_true,List.isEmpty_iff,decide_eq_true_eq] at this
    rcases this with rfl | h3
    · simp
    · omega
   rw[List.flatten_cons,List.length_append,List.length_cons]
   omega
theorem zo3:∀ l:List UInt8,(pack l).length≤l.length
 | []=>by simp[pack]
 | [a]=>by simp[pack]
 | a :: b :: r => by
   have:=zo3 r
   simp[pack]
   omega
theorem zwj (l:List UInt8) (w:World) (hl:l.length≤1048576) :
 Calls Tryz.prog 182 #[.string ⟨l.toArray⟩] w fun e w'=>e=.returned (.bool (zq l))∧w'=w:=by
 have h:=zhb ⟨l.toArray⟩ w (by simp[ByteArray.size];omega)
 have e1:(ByteArray.mk l.toArray).data.toList=l:=by simp
 rw[e1] at h
 exact h
theorem zcu (v:List UInt8):v.isEmpty=true∨v.isEmpty=false:=by cases v <;> simp
theorem zwk (a:Option Addr) (cap:Nat) (ls:List (List UInt8)) (v:List UInt8) (w:World) (hl:ls.length≤1048576) (hm:∀ l∈ls,l.length≤1048576) (hs:zt w a ls) :
 Calls Tryz.prog 203 #[.slice a ls.length cap,.string ⟨v.toArray⟩] w fun e w'=>e=.returned (.bool (zcf ls v))∧w'=w:=by
 obtain⟨r,hr⟩:∃ r,r=zcf ls v:=⟨_,rfl⟩
 rw[←hr]
 by_cases h16:ls.length=16
 · have HR : Hid (r = (ls.all zao && decide (2 ≤ oneN v + zb4 ls))) := by rw [Hid, hr, zcf, decide_eq_true h16]; rfl
   have h16':(ls.length:Int)=16:=by omega
   rcases hs with rfl | ⟨b,off,rfl,hc⟩
   · simp at h16
   · have hm' : ∀ j (h : j < ls.length), ls[j].length ≤ 1048576 := fun j h => hm _ (List.getElem_mem _)
     obtain⟨n,hn⟩:∃ n,n=ls.length:=⟨_,rfl⟩
     have hn16:n=16:=by omega
     have HN:Hid _:=hn
     rw[←hn]
     clear hm hr h16' hl
     rcases zcu v with hv | hv
     all_goals
      have HV:Hid _:=hv
      subst hn16
      clear hn h16
      go_enter Tryz.func203,Tryz.ntmps203
      go_wp2
      go_loop [5,7,17] (fun t _ i=>∃ j m:Nat,j≤16∧i=.int .i64 (j:Int)∧t=.int .i64 (m:Int)∧m≤17∧Hid (m=oneN v+zb4 (ls.take j))∧Hid ((ls.take j).all zao=true)) (fun _ _ i=>16 - (intOf i).toNat)
      case atStart=>exact⟨0,oneN v,Nat.zero_le _,rfl,by rw[oneN,HV.out];rfl,by have:=zg7 v;omega,by rw[Hid];simp[zb4],rfl⟩
      case round =>
       obtain⟨j,m,hj,rfl,rfl,hm17,HM,HA⟩:=hrel
       by_cases hlt:j<16
       · have hjl:j<ls.length:=by have:=HN.out;omega
         have c1:=hc j hjl
         have m1:=hm' j hjl
         have hj0:(0:Int)≤(j:Int):=by omega
         have hj1:(j:Int)<16:=by omega
         have HT:Hid _:=zny ls j hjl
         have HA2:Hid (zao ls[j]=true→(ls.take (j+1)).all zao=true):=fun h=>zo0 ls j hjl HA.out h
         have HA3:Hid (zao ls[j]=false→ls.all zao=false):=fun h=>zo1 ls j hjl h
         have HLE:Hid (zb4 (ls.take (j+1))≤16):=by rw[Hid];have h1:=znz (ls.take (j+1));rw[List.length_take] at h1;omega
         have HV1:Hid _:=zg7 v
         obtain⟨x,hx⟩:∃ x,x=ls[j]:=⟨_,rfl⟩
         rw[←hx] at c1 m1 HT HA2 HA3
         clear hc hm' hx hjl
         rcases zcu x with hx | hx
         · have HX:Hid _:=hx
           go_wp2
           go_round
           case rel=>exact⟨j+1,m,by omega,by go_num,rfl,hm17,by have h1:=HT.out;have h2:=HM.out;have h3:oneN x=0:=(by rw[oneN,HX.out];rfl);rw[Hid];omega,HA2.out (by rw[zao,HX.out];rfl)⟩
           case measure=>simp[intOf];omega
         · have HX:Hid _:=hx
           by_cases h32:x.length=32
           · have h32':(x.length:Int)=32:=by omega
             have H32:Hid _:=h32
             have HS:Hid (m+1=oneN v+zb4 (ls.take (j+1))):=by rw[Hid,HT.out,show oneN x=1 from by rw[oneN,HX.out];rfl,HM.out];omega
             have hm2:m+1≤17:=by have h1:=HS.out;have h2:=HLE.out;have h3:=HV1.out;omega
             clear h32
             go_wp2
             go_round
             case rel=>exact⟨j+1,m+1,by omega,by go_num,by go_num,hm2,HS.out,HA2.out (by rw[zao,decide_eq_true H32.out,Bool.or_true])⟩
             case measure=>simp[intOf];omega
           · have h32':¬ (x.length:Int)=32:=by omega
             have HZ:Hid (r=false):=by rw[Hid,HR.out,HA3.out (by rw[zao,HX.out,decide_eq_false h32];rfl)];rfl
             clear h32
             go_wp2
             go_ret
             exact⟨by rw[HZ.out];rfl,rfl⟩
       · have hj16:j=16:=by omega
         subst hj16
         have HF:Hid (r=decide (2≤m)):=by
          have e1:ls.take 16=ls:=List.take_of_length_le (by have:=HN.out;omega)
          have h1:=HM.out
          have h2:=HA.out
          rw[e1] at h1 h2
          rw[Hid,HR.out,h2,h1];rfl
         clear hc hm' HM HA
         by_cases h2:2≤m
         · have h2':(2:Int)≤(m:Int):=by omega
           have HZ:Hid (r=true):=by rw[Hid,HF.out];exact decide_eq_true h2
           go_wp2
           go_ret
           exact⟨by rw[HZ.out];rfl,rfl⟩
         · have h2':¬ (2:Int)≤(m:Int):=by omega
           have HZ:Hid (r=false):=by rw[Hid,HF.out];exact decide_eq_false h2
           go_wp2
           go_ret
           exact⟨by rw[HZ.out];rfl,rfl⟩
 · have hf:r=false:=by rw[hr,zcf,decide_eq_false h16];rfl
   subst hf
   have h16':¬ (ls.length:Int)=16:=by omega
   clear hr hs hm
   go_enter Tryz.func203,Tryz.ntmps203
   go_wp2
   go_ret
   exact⟨rfl,rfl⟩
theorem zwl (k:Int) (p:List UInt8) (a:Option Addr) (cap:Nat) (ls:List (List UInt8)) (v:List UInt8) (w:World) (hp:p.length≤1048576) (hv:v.length≤1048576) (hl:ls.length≤1048576) (hm:∀ l∈ls,l.length≤1048576) (hs:zt w a ls) :
 Calls Tryz.prog 168 #[.agg #[.int .i64 k,.string ⟨p.toArray⟩,.slice a ls.length cap,.string ⟨v.toArray⟩]] w fun e w'=>e=.returned (.bool (zba k p ls v))∧Below w.heap.size w w':=by
 have B0:Below w.heap.size w (w.alloc (.cells #[.int .i64 k,.string ⟨p.toArray⟩,.slice a ls.length cap,.string ⟨v.toArray⟩] 152)):=(Below.refl _ _).alloc (Nat.le_refl _) _
 have BB:Hid _:=B0
 have KN:=zwj p (w.alloc (.cells #[.int .i64 k,.string ⟨p.toArray⟩,.slice a ls.length cap,.string ⟨v.toArray⟩] 152)) hp
 have KB:=zwk a cap ls v (w.alloc (.cells #[.int .i64 k,.string ⟨p.toArray⟩,.slice a ls.length cap,.string ⟨v.toArray⟩] 152)) hl hm (zay hs B0)
 have HC:Hid (ls.length=1→∃ b off,a=some ⟨b,off,none⟩∧(w.alloc (.cells #[.int .i64 k,.string ⟨p.toArray⟩,.slice a ls.length cap,.string ⟨v.toArray⟩] 152)).cell? ⟨b,off,none⟩=some (.string ⟨(ls.getD 0 []).toArray⟩)):=fun h1=>by
  rcases zay hs B0 with h | ⟨b,off,h,hc⟩
  · rw[h] at h1;simp at h1
  · refine⟨b,off,h,?_⟩
    have:=hc 0 (by omega)
    rw[Nat.add_zero] at this
    rw[this,List.getD_eq_getElem?_getD,List.getElem?_eq_getElem (by omega)];rfl
 have HK1:Hid _:=hm
 obtain⟨r,hr⟩:∃ r,r=zba k p ls v:=⟨_,rfl⟩
 rw[←hr]
 have HRR:Hid (r=(zcg p v && kindOk k p ls v)):=by rw[Hid,hr];rfl
 clear hr hs hm B0
 by_cases hp24:p.length≤24
 · have hp24' : (p.length : Int) ≤ 24 := by omega
   have hpd:decide ((24:Int)<(p.length:Int))=false:=decide_eq_false (by omega)
   cases hn:zq p with
   | false =>
     rw[hn] at KN
     have HR:Hid (r=false):=by rw[Hid,HRR.out,zcg,hn];simp
     clear HRR hn KB HC
     go_enter Tryz.func168,Tryz.ntmps168
     go_wp2_with fail
     refine KN.mono ?_
     rintro e w1 ⟨rfl,rfl⟩
     go_wp2
     go_ret
     exact⟨by rw[HR.out];rfl,BB.out⟩
   | true =>
     rw[hn] at KN
     by_cases hv60:v.length≤60
     · have hv60' : (v.length : Int) ≤ 60 := by omega
       have hvd:decide ((60:Int)<(v.length:Int))=false:=decide_eq_false (by omega)
       have HR0:Hid (r=kindOk k p ls v):=by rw[Hid,HRR.out,zcg,hn,decide_eq_true hp24,decide_eq_true hv60];rfl
       clear HRR hn
       by_cases h1:k=1
       · subst h1
         have HR1:Hid (r=(!v.isEmpty && decide (ls.length=0))):=HR0
         clear HR0 KB HC
         rcases zcu v with hve | hve
         · have HR:Hid (r=false):=by rw[Hid,HR1.out,hve];rfl
           go_enter Tryz.func168,Tryz.ntmps168
           go_wp2_with fail
           refine KN.mono ?_
           rintro e w1 ⟨rfl,rfl⟩
           go_wp2
           go_ret
           exact⟨by rw[HR.out];rfl,BB.out⟩
         · by_cases hl0:ls.length=0
           · have HR:Hid (r=true):=by rw[Hid,HR1.out,hve,decide_eq_true hl0];rfl
             rw[hl0] at KN BB
             rw[hl0]
             clear hl0
             go_enter Tryz.func168,Tryz.ntmps168
             go_wp2_with fail
             refine KN.mono ?_
             rintro e w1 ⟨rfl,rfl⟩
             go_wp2
             go_ret
             exact⟨by rw[HR.out];rfl,BB.out⟩
           · have HR:Hid (r=false):=by rw[Hid,HR1.out,hve,decide_eq_false hl0];rfl
             have hl0':((ls.length:Int) == 0)=false:=by rw[beq_eq_false_iff_ne];omega
             go_enter Tryz.func168,Tryz.ntmps168
             go_wp2_with fail
             refine KN.mono ?_
             rintro e w1 ⟨rfl,rfl⟩
             go_wp2
             go_ret
             exact⟨by rw[HR.out];rfl,BB.out⟩
       · have h1d : ¬ k = 1 := h1
         by_cases h2:k=2
         · subst h2
           have HR1:Hid (r=(!p.isEmpty && (v.isEmpty && (decide (ls.length=1) && decide ((ls.getD 0 []).length=32))))):=HR0
           clear HR0 KB h1d h1
           rcases zcu p with hpe | hpe
           · have HR:Hid (r=false):=by rw[Hid,HR1.out,hpe];rfl
             clear HC
             go_enter Tryz.func168,Tryz.ntmps168
             go_wp2_with fail
             refine KN.mono ?_
             rintro e w1 ⟨rfl,rfl⟩
             go_wp2
             go_ret
             exact⟨by rw[HR.out];rfl,BB.out⟩
           · rcases zcu v with hve | hve
             · by_cases hl1:ls.length=1
               · obtain⟨b,off,rfl,c1⟩:=HC.out hl1
                 have hx:(ls.getD 0 []).length≤1048576:=by
                  rw[List.getD_eq_getElem?_getD,List.getElem?_eq_getElem (by omega)];exact HK1.out _ (List.getElem_mem _)
                 obtain⟨x,hxx⟩:∃ x,x=ls.getD 0 []:=⟨_,rfl⟩
                 rw[←hxx] at c1 HR1 hx
                 have hl1':(ls.length:Int)=1:=by omega
                 have HL1:Hid (ls.length=1):=hl1
                 rw[hl1] at KN c1 BB
                 rw[hl1]
                 clear HC hxx hl1 hl1'
                 by_cases h32:x.length=32
                 · have h32':((x.length:Int) == 32)=true:=by rw[beq_iff_eq];omega
                   have HR:Hid (r=true):=by rw[Hid,HR1.out,hpe,hve,decide_eq_true HL1.out,decide_eq_true h32];rfl
                   clear h32
                   go_enter Tryz.func168,Tryz.ntmps168
                   go_wp2_with fail
                   refine KN.mono ?_
                   rintro e w1 ⟨rfl,rfl⟩
                   go_wp2
                   go_ret
                   exact⟨by rw[HR.out];rfl,BB.out⟩
                 · have h32':((x.length:Int) == 32)=false:=by rw[beq_eq_false_iff_ne];omega
                   have HR:Hid (r=false):=by rw[Hid,HR1.out,hpe,hve,decide_eq_true HL1.out,decide_eq_false h32];rfl
                   clear h32
                   go_enter Tryz.func168,Tryz.ntmps168
                   go_wp2_with fail
                   refine KN.mono ?_
                   rintro e w1 ⟨rfl,rfl⟩
                   go_wp2
                   go_ret
                   exact⟨by rw[HR.out];rfl,BB.out⟩
               · have hl1':((ls.length:Int) == 1)=false:=by rw[beq_eq_false_iff_ne];omega
                 have HR:Hid (r=false):=by rw[Hid,HR1.out,hpe,hve,decide_eq_false hl1];rfl
                 clear HC
                 go_enter Tryz.func168,Tryz.ntmps168
                 go_wp2_with fail
                 refine KN.mono ?_
                 rintro e w1 ⟨rfl,rfl⟩
                 go_wp2
                 go_ret
                 exact⟨by rw[HR.out];rfl,BB.out⟩
             · have HR:Hid (r=false):=by rw[Hid,HR1.out,hpe,hve];rfl
               clear HC
               go_enter Tryz.func168,Tryz.ntmps168
               go_wp2_with fail
               refine KN.mono ?_
               rintro e w1 ⟨rfl,rfl⟩
               go_wp2
               go_ret
               exact⟨by rw[HR.out];rfl,BB.out⟩
         · by_cases h3:k=3
           · subst h3
             have HR1:Hid (r=(p.isEmpty && zcf ls v)):=HR0
             clear HR0 HC h1d h1 h2
             rcases zcu p with hpe | hpe
             · have HR2:Hid (r=zcf ls v):=by rw[Hid,HR1.out,hpe];rfl
               rw[←HR2.out] at KB
               go_enter Tryz.func168,Tryz.ntmps168
               go_wp2_with fail
               refine KN.mono ?_
               rintro e w1 ⟨rfl,rfl⟩
               go_wp2_with fail
               refine KB.mono ?_
               rintro e w1 ⟨rfl,rfl⟩
               go_wp2
               go_ret
               exact⟨rfl,BB.out⟩
             · have HR:Hid (r=false):=by rw[Hid,HR1.out,hpe];rfl
               clear KB
               go_enter Tryz.func168,Tryz.ntmps168
               go_wp2_with fail
               refine KN.mono ?_
               rintro e w1 ⟨rfl,rfl⟩
               go_wp2
               go_ret
               exact⟨by rw[HR.out];rfl,BB.out⟩
           · have HR:Hid (r=false):=by rw[Hid,HR0.out,kindOk,if_neg h1,if_neg h2,if_neg h3]
             clear HC KB HR0
             go_enter Tryz.func168,Tryz.ntmps168
             go_wp2_with fail
             refine KN.mono ?_
             rintro e w1 ⟨rfl,rfl⟩
             go_wp2
             go_ret
             exact⟨by rw[HR.out];rfl,BB.out⟩
     · have hv60':¬ (v.length:Int)≤60:=by omega
       have HR:Hid (r=false):=by rw[Hid,HRR.out,zcg,decide_eq_false hv60];simp
       clear HRR hn KB HC
       go_enter Tryz.func168,Tryz.ntmps168
       go_wp2_with fail
       refine KN.mono ?_
       rintro e w1 ⟨rfl,rfl⟩
       go_wp2
       go_ret
       exact⟨by rw[HR.out];rfl,BB.out⟩
 · have hp24':¬ (p.length:Int)≤24:=by omega
   have hpd:=decide_eq_true (by omega)
   have HR:Hid (r=false):=by rw[Hid,HRR.out,zcg,decide_eq_false hp24];rfl
   clear HRR KB HC KN
   go_enter Tryz.func168,Tryz.ntmps168
   go_wp2
   go_ret
   exact⟨by rw[HR.out];rfl,BB.out⟩
theorem zo4 (l:List UInt8) (leaf:Bool) (w:World) (hl:l.length≤24) (hn:zq l=true) :
 Calls Tryz.prog 142 #[.string ⟨l.toArray⟩,.bool leaf] w fun e w'=>e=.returned (.tuple #[.string ⟨(pack (za7 l leaf)).toArray⟩,.bool true])∧Below w.heap.size w w':=by
 have h:=zvs ⟨l.toArray⟩ leaf w (by simp[ByteArray.size];omega)
 have e1:(ByteArray.mk l.toArray).data.toList=l:=by simp
 have e2:zg5 l leaf=pack (za7 l leaf):=if_pos ⟨by omega,hn⟩
 have e3:zdr l=true:=by rw[zdr,decide_eq_true (by omega),hn];rfl
 rw[e1,e2,e3] at h
 exact h
theorem zi {w:World} {b:Nat} {u v x y:Value} {t:TypeId} (h:w.heap[b]? = some (.cells #[u,v,x,y] t (0,0))) :
 w.cell? ⟨b,0,none⟩=some u∧w.cell? ⟨b,1,none⟩=some v∧w.cell? ⟨b,2,none⟩=some x∧w.cell? ⟨b,3,none⟩=some y∧∀ j,w.frozen? ⟨b,j,none⟩=false:=by
 refine⟨?_,?_,?_,?_,fun j=>frozen_of_row w b j _ t h⟩ <;> simp only[World.cell?,h] <;> rfl
theorem ze1 (l:List UInt8) (leaf:Bool):(pack (za7 l leaf)).length≤l.length+2:=by
 have h:=zo3 (za7 l leaf)
 have h2:(za7 l leaf).length≤l.length+2:=by unfold za7;split <;> simp
 omega
theorem zo5 (w:World) (x y:List UInt8) (t:TypeId):zt (w.alloc (.cells #[.string ⟨x.toArray⟩,.string ⟨y.toArray⟩] t)) (some ⟨w.heap.size,0,none⟩) [x,y]:=by
 refine .inr ⟨w.heap.size,0,rfl,fun j hj=>?_⟩
 have h:=heap_alloc_new w (.cells #[.string ⟨x.toArray⟩,.string ⟨y.toArray⟩] t)
 have hj':j=0∨j=1:=by simp at hj;omega
 rcases hj' with rfl | rfl <;> simp only[World.cell?,h] <;> rfl
theorem zo6 (p:List UInt8) (a:Option Addr) (cap n:Nat) (v:List UInt8) (w:World) (hp:p.length≤24) (hn:zq p=true) (hv:v.length≤60) :
 Calls Tryz.prog 109 #[.agg #[.int .i64 1,.string ⟨p.toArray⟩,.slice a n cap,.string ⟨v.toArray⟩]] w fun e w'=>e=.returned (.string ⟨(za8 [pack (za7 p true),v]).toArray⟩)∧Below w.heap.size w w':=by
 have K1:=zo4 p true (w.alloc (.cells #[.int .i64 1,.string ⟨p.toArray⟩,.slice a n cap,.string ⟨v.toArray⟩] 152)) hp hn
 have HB0:Hid ((w.alloc (.cells #[.int .i64 1,.string ⟨p.toArray⟩,.slice a n cap,.string ⟨v.toArray⟩] 152)).heap[w.heap.size]? = some (.cells #[.int .i64 1,.string ⟨p.toArray⟩,.slice a n cap,.string ⟨v.toArray⟩] 152 (0,0))∧Below w.heap.size w (w.alloc (.cells #[.int .i64 1,.string ⟨p.toArray⟩,.slice a n cap,.string ⟨v.toArray⟩] 152))∧w.heap.size<(w.alloc (.cells #[.int .i64 1,.string ⟨p.toArray⟩,.slice a n cap,.string ⟨v.toArray⟩] 152)).heap.size):=⟨heap_alloc_new w _,(Below.refl _ _).alloc (Nat.le_refl _) _,by simp⟩
 have hxl:=ze1 p true
 obtain⟨x,hx⟩:∃ x,x=pack (za7 p true):=⟨_,rfl⟩
 rw[←hx] at K1 hxl ⊢
 have HF:Hid ([x,v].flatten.length≤30000):=by rw[Hid];simp;omega
 obtain⟨out,hout⟩:∃ out,za8 [x,v]=out:=⟨_,rfl⟩
 have HOU:Hid _:=hout
 rw[hout]
 clear hout
 clear hx
 go_enter Tryz.func109,Tryz.ntmps109
 go_wp2_with fail
 refine K1.mono ?_
 rintro e w1 ⟨rfl,b1⟩
 have B1:=HB0.out.2.1.trans (b1.mono HB0.out.2.1.size)
 obtain⟨q0,q1,q2,q3,_⟩:=zi ((b1.block _ HB0.out.2.2).trans HB0.out.1)
 have K2:=zjs (some ⟨w1.heap.size,0,none⟩) 2 [x,v] (w1.alloc (.cells #[.string ⟨x.toArray⟩,.string ⟨v.toArray⟩] 9)) HF.out (by simp) (zo5 w1 x v 9)
 rw[HOU.out] at K2
 clear K1 b1
 go_wp2_with fail
 refine K2.mono ?_
 rintro e w2 ⟨rfl,b2⟩
 have B2:=(B1.alloc B1.size (.cells #[.string ⟨x.toArray⟩,.string ⟨v.toArray⟩] 9)).trans (b2.mono (by simp;have:=B1.size;omega))
 go_wp2
 go_ret
 exact⟨rfl,B2⟩
theorem zo7 (p:List UInt8) (b off cap:Nat) (y v:List UInt8) (w:World) (hp:p.length≤24) (hn:zq p=true) (hy:y.length=32) (hc:w.cell? ⟨b,off,none⟩=some (.string ⟨y.toArray⟩)) :
 Calls Tryz.prog 109 #[.agg #[.int .i64 2,.string ⟨p.toArray⟩,.slice (some ⟨b,off,none⟩) 1 cap,.string ⟨v.toArray⟩]] w fun e w'=>e=.returned (.string ⟨(za8 [pack (za7 p false),y]).toArray⟩)∧Below w.heap.size w w':=by
 have K1:=zo4 p false (w.alloc (.cells #[.int .i64 2,.string ⟨p.toArray⟩,.slice (some ⟨b,off,none⟩) 1 cap,.string ⟨v.toArray⟩] 152)) hp hn
 have HB0:Hid ((w.alloc (.cells #[.int .i64 2,.string ⟨p.toArray⟩,.slice (some ⟨b,off,none⟩) 1 cap,.string ⟨v.toArray⟩] 152)).heap[w.heap.size]? = some (.cells #[.int .i64 2,.string ⟨p.toArray⟩,.slice (some ⟨b,off,none⟩) 1 cap,.string ⟨v.toArray⟩] 152 (0,0))∧Below w.heap.size w (w.alloc (.cells #[.int .i64 2,.string ⟨p.toArray⟩,.slice (some ⟨b,off,none⟩) 1 cap,.string ⟨v.toArray⟩] 152))∧w.heap.size<(w.alloc (.cells #[.int .i64 2,.string ⟨p.toArray⟩,.slice (some ⟨b,off,none⟩) 1 cap,.string ⟨v.toArray⟩] 152)).heap.size):=⟨heap_alloc_new w _,(Below.refl _ _).alloc (Nat.le_refl _) _,by simp⟩
 have hxl:=ze1 p false
 obtain⟨x,hx⟩:∃ x,x=pack (za7 p false):=⟨_,rfl⟩
 rw[←hx] at K1 hxl ⊢
 have HF:Hid ([x,y].flatten.length≤30000):=by rw[Hid];simp;omega
 obtain⟨out,hout⟩:∃ out,za8 [x,y]=out:=⟨_,rfl⟩
 have HOU:Hid _:=hout
 rw[hout]
 clear hout
 have HC:Hid _:=hc
 clear hx hc hy
 go_enter Tryz.func109,Tryz.ntmps109
 go_wp2_with fail
 refine K1.mono ?_
 rintro e w1 ⟨rfl,b1⟩
 have B1:=HB0.out.2.1.trans (b1.mono HB0.out.2.1.size)
 obtain⟨q0,q1,q2,q3,_⟩:=zi ((b1.block _ HB0.out.2.2).trans HB0.out.1)
 have c1:=(B1.cell (p:=⟨b,off,none⟩) (World.block_lt_of_cell? w _ HC.out)).trans HC.out
 have K2:=zjs (some ⟨w1.heap.size,0,none⟩) 2 [x,y] (w1.alloc (.cells #[.string ⟨x.toArray⟩,.string ⟨y.toArray⟩] 9)) HF.out (by simp) (zo5 w1 x y 9)
 rw[HOU.out] at K2
 clear K1 b1
 go_wp2_with fail
 refine K2.mono ?_
 rintro e w2 ⟨rfl,b2⟩
 have B2:=(B1.alloc B1.size (.cells #[.string ⟨x.toArray⟩,.string ⟨y.toArray⟩] 9)).trans (b2.mono (by simp;have:=B1.size;omega))
 go_wp2
 go_ret
 exact⟨rfl,B2⟩
theorem zf7 {w:World} {b off:Nat} {qs:List (List UInt8)} (h:zt w (some ⟨b,off,none⟩) qs):∀ j u,(zh qs)[j]? = some u→w.cell? ((⟨b,off,none⟩:Addr).add j)=some u:=by
 intro j u hu
 have hj:j<qs.length:=by have:=(List.getElem?_eq_some_iff.1 hu).1;rwa [zem] at this
 rcases h with rfl | ⟨b',off',he,hc⟩
 · simp at hj
 · cases he
   have e1:(⟨b,off,none⟩:Addr).add j=⟨b,off+j,none⟩:=by simp[Addr.add]
   rw[zgm qs j hj] at hu
   cases hu
   rw[e1];exact hc j hj
theorem zhe (qs:List (List UInt8)):∀ u∈zh qs,u.oneCell'=true:=by
 intro u hu
 simp only[zh,List.mem_map] at hu
 obtain⟨l,_,rfl⟩:=hu
 rfl
theorem zo8 (b off cap:Nat) (qs:List (List UInt8)) (w:World) (hl:qs.length≤1000) (hs:zt w (some ⟨b,off,none⟩) qs) :
 Calls Tryz.prog 141 #[.slice (some ⟨b,off,none⟩) qs.length cap] w fun e w'=>∃ (a:Option Addr) (m c:Nat),e=.returned (.slice a m c)∧w'.ownsRow w.heap.size 9 1 (.slice a m c) qs.length (zh qs)∧Below w.heap.size w w':=by
 obtain⟨i0,hi0,hz0,hz1,hz2⟩:=info_parts zdc
 have B0:Below w.heap.size w (w.alloc (.cells #[] 9)):=(Below.refl _ _).alloc (Nat.le_refl _) _
 have HF:Hid _:=zf7 (zay hs B0)
 have o0:=World.ownsRow_lit (e:=9) (size:=1) w #[] 0 (base:=w.heap.size) (Nat.le_refl _) (Nat.zero_le _) rfl
 have HO0:=zc o0
 have hnil:∀ W,(binOp .eql 138 (.slice (some ⟨b,off,none⟩) qs.length cap) (.slice none 0 0)).run Tryz.prog W=.ok (.bool false) W:=fun W=>by first | rfl | (simp[binOp,Op.equal,run_underlying Tryz.underlying138])
 clear hs o0
 go_enter Tryz.func141,Tryz.ntmps141
 go_wp2_with (at_builtin;refine wpList_append_own _ rfl _ _ 138 rfl w.heap.size 9 i0 (.string ⟨#[]⟩) 1 16 Tryz.underlying138 hi0 hz0 hz1 hz2 rfl (by decide) (.slice (some ⟨w.heap.size,0,none⟩) 0 0) 0 _ rfl HO0.out ⟨b,off,none⟩ qs.length cap (zh qs) rfl (by rw[zem,Nat.mul_one]) HF.out (zhe qs) (by unfold maxLen;omega) (by omega) (by simp <;> omega) ?_;intro v3 w3 hown3 hgrow3 hnil3;obtain⟨a3,m3,c3,rfl⟩:=zdu hown3)
 have B3:Below w.heap.size w w3:=B0.grown hgrow3 (by simp) (fun k hk=>by simp[Value.ownBlock] at hk;omega)
 have HO3:Hid (w3.ownsRow w.heap.size 9 1 (.slice a3 m3 c3) qs.length (zh qs)):=by rw[Hid];simpa using hown3
 clear hown3 hgrow3 hnil3
 go_wp2
 go_ret
 exact⟨a3,m3,c3,rfl,HO3.out,B3⟩
theorem zd2 {B:Nat} {w w':World} (h:Below B w w'):Below B w w'.drew:=⟨h.os,h.tape,h.output,h.size,h.block⟩
theorem zcp {B:Nat} {w w':World} (h:Below B w.drew w'):Below B w w':=⟨h.os,h.tape,h.output,h.size,h.block⟩
theorem zf8 {w:World} {base e n:Nat} {a:Option Addr} {m cap:Nat} {xs:List Value} (h:w.ownsRow base e 1 (.slice a m cap) n xs) (hn:0<n):m=n∧∃ g,a=some ⟨g,0,none⟩∧base≤g∧g<w.heap.size∧n≤cap:=by
 rcases h.2 with ⟨h',h0⟩ | ⟨g,cap',cur,h',hb,hg,hc,_⟩
 · omega
 · cases h';exact⟨rfl,g,rfl,hb,(Array.getElem?_eq_some_iff.1 hg).1,hc⟩
theorem zo9 (p:List UInt8) (b off cap:Nat) (ls:List (List UInt8)) (v:List UInt8) (w:World) (h16:ls.length=16) (hk:ls.flatten.length≤1000) (hv:v.length≤60) (hs:zt w (some ⟨b,off,none⟩) ls) :
 Calls Tryz.prog 109 #[.agg #[.int .i64 3,.string ⟨p.toArray⟩,.slice (some ⟨b,off,none⟩) 16 cap,.string ⟨v.toArray⟩]] w fun e w'=>e=.returned (.string ⟨(za8 (ls ++ [v])).toArray⟩)∧Below w.heap.size w w':=by
 obtain⟨i0,hi0,hz0,hz1,hz2⟩:=info_parts zdc
 have B0:Below w.heap.size w (w.alloc (.cells #[.int .i64 3,.string ⟨p.toArray⟩,.slice (some ⟨b,off,none⟩) 16 cap,.string ⟨v.toArray⟩] 152)):=(Below.refl _ _).alloc (Nat.le_refl _) _
 have HQ:Hid ((w.alloc (.cells #[.int .i64 3,.string ⟨p.toArray⟩,.slice (some ⟨b,off,none⟩) 16 cap,.string ⟨v.toArray⟩] 152)).heap[w.heap.size]? = some (.cells #[.int .i64 3,.string ⟨p.toArray⟩,.slice (some ⟨b,off,none⟩) 16 cap,.string ⟨v.toArray⟩] 152 (0,0))):=heap_alloc_new w _
 have HX:Hid (w.heap.size<(w.alloc (.cells #[.int .i64 3,.string ⟨p.toArray⟩,.slice (some ⟨b,off,none⟩) 16 cap,.string ⟨v.toArray⟩] 152)).heap.size):=by rw[Hid];simp
 obtain⟨wx,hwx⟩:∃ wx,wx=w.alloc (.cells #[.int .i64 3,.string ⟨p.toArray⟩,.slice (some ⟨b,off,none⟩) 16 cap,.string ⟨v.toArray⟩] 152):=⟨_,rfl⟩
 have hsx:wx.heap.size=w.heap.size+1:=by rw[hwx];simp
 have HWX:Hid (w.alloc (.cells #[.int .i64 3,.string ⟨p.toArray⟩,.slice (some ⟨b,off,none⟩) 16 cap,.string ⟨v.toArray⟩] 152)=wx):=hwx.symm
 rw[←hwx] at HQ HX B0
 have BX:Hid (Below w.heap.size w wx):=B0
 have HKC:Hid (∀ W,Below w.heap.size w W→Calls Tryz.prog 141 #[.slice (some ⟨b,off,none⟩) 16 cap] W fun e w'=>∃ (c:Nat) (g:Nat),e=.returned (.slice (some ⟨g,0,none⟩) 16 c)∧w'.ownsRow W.heap.size 9 1 (.slice (some ⟨g,0,none⟩) 16 c) 16 (zh ls)∧Below W.heap.size W w'):=fun W hW=>by
  have h:=zo8 b off cap ls W (by omega) (zay hs hW)
  rw[h16] at h
  refine h.mono ?_
  rintro e w' ⟨a,m,c,rfl,o,bb⟩
  obtain⟨rfl,g,rfl,_⟩:=zf8 o (by omega)
  exact⟨c,g,rfl,o,bb⟩
 have HKL:Hid (∀ W g c,W.ownsRow (w.heap.size+1) 9 1 (.slice (some ⟨g,0,none⟩) 17 c) 17 (zh (ls ++ [v]))→Calls Tryz.prog 140 #[.slice (some ⟨g,0,none⟩) 17 c] W fun e w'=>e=.returned (.string ⟨(za8 (ls ++ [v])).toArray⟩)∧Below W.heap.size W w'):=fun W g c ho=>by
  have hlen:(ls ++ [v]).length=17:=by simp[h16]
  have h:=zjs (some ⟨g,0,none⟩) c (ls ++ [v]) W (by rw[List.flatten_append,List.length_append,show ([v]:List (List UInt8)).flatten=v by simp];omega) (by omega) (zc8 ho).2.2
  rw[hlen] at h
  exact h
 have HSN:Hid (zh (ls ++ [v])=zh ls ++ [.string ⟨v.toArray⟩]):=zc0 ls v
 obtain⟨out,hout⟩:∃ out,za8 (ls ++ [v])=out:=⟨_,rfl⟩
 rw[hout] at HKL ⊢
 obtain⟨cs,hcs⟩:∃ cs,cs=zh ls:=⟨_,rfl⟩
 rw[←hcs] at HKC HSN
 rw[HSN.out] at HKL
 have HSX:Hid (wx.heap.size=w.heap.size+1):=hsx
 have BXA:Hid (Below w.heap.size w (wx.alloc (.cells #[.string ⟨v.toArray⟩] 9)).drew):=zd2 (B0.alloc (by omega) _)
 have HXA:Hid ((wx.alloc (.cells #[.string ⟨v.toArray⟩] 9)).drew.heap.size=wx.heap.size+1):=by rw[Hid];simp[heap_drew]
 have HNA:Hid ((wx.alloc (.cells #[.string ⟨v.toArray⟩] 9)).drew.heap[wx.heap.size]? = some (.cells #[.string ⟨v.toArray⟩] 9 (0,0))):=heap_alloc_new wx _
 have HQA:Hid ((wx.alloc (.cells #[.string ⟨v.toArray⟩] 9)).drew.heap[w.heap.size]? = some (.cells #[.int .i64 3,.string ⟨p.toArray⟩,.slice (some ⟨b,off,none⟩) 16 cap,.string ⟨v.toArray⟩] 152 (0,0))):=(Below.heap_alloc wx _ w.heap.size (by omega)).trans HQ.out
 clear hwx hs h16 hk hout hcs HSN B0 hsx
 go_enter Tryz.func109,Tryz.ntmps109
 go_wp2_with fail
 rw[HWX.out]
 obtain⟨q0,q1,q2,q3,_⟩:=zi HQ.out
 have SA:Hid ((wx.alloc (.cells #[.string ⟨v.toArray⟩] 9)).drew.cell? ⟨w.heap.size,2,none⟩=some (.slice (some ⟨b,off,none⟩) 16 cap)∧(wx.alloc (.cells #[.string ⟨v.toArray⟩] 9)).drew.cell? ⟨w.heap.size,3,none⟩=some (.string ⟨v.toArray⟩)):=⟨(zi HQA.out).2.2.1,(zi HQA.out).2.2.2.1⟩
 go_region_held3 (fun w'=>w'.cell? ⟨w.heap.size,2,none⟩=some (.slice (some ⟨b,off,none⟩) 16 cap)∧w'.cell? ⟨w.heap.size,3,none⟩=some (.string ⟨v.toArray⟩))
  (first | exact S3.out | exact S1a.out | exact S1.out | exact SA.out | exact⟨q2,q3⟩)
  (first
   | (go_at_call 140
      with_reducible refine (HKL.out _ _ _ HO3.out).mono ?_
      rintro e w4 ⟨rfl,b4⟩
      have B4:=B3.out.trans (b4.mono B3.out.size)
      have S3:Hid (w4.cell? ⟨w.heap.size,2,none⟩=some (.slice (some ⟨b,off,none⟩) 16 cap)∧w4.cell? ⟨w.heap.size,3,none⟩=some (.string ⟨v.toArray⟩)):=⟨(b4.cell (p:=⟨w.heap.size,2,none⟩) L3.out).trans S3.out.1,(b4.cell (p:=⟨w.heap.size,3,none⟩) L3.out).trans S3.out.2⟩)
   | (refine step_append_lies _ rfl (.tmp 10) (.tmp 13) 138 rfl (w.heap.size + 1) 9 i0 (.string ⟨#[]⟩) 1 16 Tryz.underlying138 hi0 hz0 hz1 hz2 rfl (by decide) (.slice (some ⟨g1, 0, none⟩) 16 c1) 16 cs (by simp [Act.eval]) O1n.out ⟨w1.heap.size, 0, none⟩ 1 1 [.string ⟨v.toArray⟩] (by simp [Act.eval]) rfl N1.out (by simp [Value.oneCell']) (by decide) (by unfold maxLen; omega) (by omega) Z1.out _ rfl ?_
      intro g3 c3 w3 hown3 hgrow3 hat3 hlt3
      have HO3:=zc hown3
      have B3:Hid (Below w.heap.size w w3):=B1a.out.grown hgrow3 (by have:=Z1.out;omega) G1.out
      have L3:Hid (w.heap.size<w3.heap.size):=Nat.lt_of_lt_of_le (by have:=Z1.out;omega) hgrow3.size
      have S3:Hid (w3.cell? ⟨w.heap.size,2,none⟩=some (.slice (some ⟨b,off,none⟩) 16 cap)∧w3.cell? ⟨w.heap.size,3,none⟩=some (.string ⟨v.toArray⟩)):=⟨(hgrow3.cell_far ⟨w.heap.size,2,none⟩ (by show w.heap.size<_;have:=Z1.out;omega) F1.out.symm).trans S1a.out.1,(hgrow3.cell_far ⟨w.heap.size,3,none⟩ (by show w.heap.size<_;have:=Z1.out;omega) F1.out.symm).trans S1a.out.2⟩)
   | (refine step_append_lies _ rfl (.tmp 10) (.tmp 13) 138 rfl (w.heap.size + 1) 9 i0 (.string ⟨#[]⟩) 1 16 Tryz.underlying138 hi0 hz0 hz1 hz2 rfl (by decide) (.slice (some ⟨g2, 0, none⟩) 16 c2) 16 cs (by simp [Act.eval]) O2n.out ⟨wx.heap.size, 0, none⟩ 1 1 [.string ⟨v.toArray⟩] (by simp [Act.eval]) rfl N2.out (by simp [Value.oneCell']) (by decide) (by unfold maxLen; omega) (by omega) Z2.out _ rfl ?_
      intro g3 c3 w3 hown3 hgrow3 hat3 hlt3
      have HO3:=zc hown3
      have B3:Hid (Below w.heap.size w w3):=B2.out.grown hgrow3 (by have:=Z2.out;omega) G2.out
      have L3:Hid (w.heap.size<w3.heap.size):=Nat.lt_of_lt_of_le (by have:=Z2.out;omega) hgrow3.size
      have S3:Hid (w3.cell? ⟨w.heap.size,2,none⟩=some (.slice (some ⟨b,off,none⟩) 16 cap)∧w3.cell? ⟨w.heap.size,3,none⟩=some (.string ⟨v.toArray⟩)):=⟨(hgrow3.cell_far ⟨w.heap.size,2,none⟩ (by show w.heap.size<_;have:=Z2.out;omega) F2.out.symm).trans S1.out.1,(hgrow3.cell_far ⟨w.heap.size,3,none⟩ (by show w.heap.size<_;have:=Z2.out;omega) F2.out.symm).trans S1.out.2⟩)
   | (go_at_call 141
      with_reducible refine (HKC.out wx.drew (zd2 BX.out)).mono ?_
      rintro e w1 ⟨c1,g1,rfl,o1,b1'⟩
      have b1:Below wx.heap.size wx w1:=zcp b1'
      have B1:Hid (Below w.heap.size w w1):=BX.out.trans (b1.mono BX.out.size)
      have q1':=zi ((b1.block _ HX.out).trans HQ.out)
      have S1:Hid (w1.cell? ⟨w.heap.size,2,none⟩=some (.slice (some ⟨b,off,none⟩) 16 cap)∧w1.cell? ⟨w.heap.size,3,none⟩=some (.string ⟨v.toArray⟩)):=⟨q1'.2.2.1,q1'.2.2.2.1⟩
      have q1a:=zi ((Below.heap_alloc w1 (.cells #[.string ⟨v.toArray⟩] 9) w.heap.size (Nat.lt_of_lt_of_le HX.out b1.size)).trans ((b1.block _ HX.out).trans HQ.out))
      have S1a:Hid ((w1.alloc (.cells #[.string ⟨v.toArray⟩] 9)).cell? ⟨w.heap.size,2,none⟩=some (.slice (some ⟨b,off,none⟩) 16 cap)∧(w1.alloc (.cells #[.string ⟨v.toArray⟩] 9)).cell? ⟨w.heap.size,3,none⟩=some (.string ⟨v.toArray⟩)):=⟨q1a.2.2.1,q1a.2.2.2.1⟩
      have gb:=(zf8 o1 (by omega)).2
      have O1n:=zc ((o1.mono (by show w.heap.size+1≤wx.heap.size;have:=HSX.out;omega)).alloc (.cells #[.string ⟨v.toArray⟩] 9))
      have N1:Hid (∀ j u,[Value.string ⟨v.toArray⟩][j]? = some u→(w1.alloc (.cells #[.string ⟨v.toArray⟩] 9)).cell? ((⟨w1.heap.size,0,none⟩:Addr).add j)=some u):=World.news_of_block (cs:=#[.string ⟨v.toArray⟩]) (t:=9) (fr:=(0,0)) (heap_alloc_new w1 _)
      have Z1:Hid (w.heap.size+1≤(w1.alloc (.cells #[.string ⟨v.toArray⟩] 9)).heap.size):=(by rw[Hid];simp;have:=B1.out.size;omega)
      have B1a:Hid (Below w.heap.size w (w1.alloc (.cells #[.string ⟨v.toArray⟩] 9))):=B1.out.alloc B1.out.size _
      have G1:Hid (∀ k,(Value.slice (some ⟨g1,0,none⟩) 16 c1).ownBlock=some k→w.heap.size≤k):=fun k hk=>(by obtain⟨g',hg',hb',_⟩:=gb;cases hg';simp[Value.ownBlock] at hk;have h9:wx.heap.size≤g1:=hb';have:=HSX.out;omega)
      have F1:Hid ((Value.slice (some ⟨g1,0,none⟩) 16 c1).ownBlock≠some w.heap.size):=(by obtain⟨g',hg',hb',_⟩:=gb;cases hg';rw[Hid];simp[Value.ownBlock];have h9:wx.heap.size≤g1:=hb';have:=HSX.out;omega)
      clear q1' q1a gb o1 b1 b1')
   | (go_at_call 141
      with_reducible refine (HKC.out ((wx.alloc (.cells #[.string ⟨v.toArray⟩] 9)).drew) BXA.out).mono ?_
      rintro e w2 ⟨c2,g2,rfl,o2,b2⟩
      have B2:Hid (Below w.heap.size w w2):=BXA.out.trans (b2.mono BXA.out.size)
      have q2':=zi ((b2.block w.heap.size (by have:=HXA.out;have:=HX.out;omega)).trans HQA.out)
      have S1:Hid (w2.cell? ⟨w.heap.size,2,none⟩=some (.slice (some ⟨b,off,none⟩) 16 cap)∧w2.cell? ⟨w.heap.size,3,none⟩=some (.string ⟨v.toArray⟩)):=⟨q2'.2.2.1,q2'.2.2.2.1⟩
      have gb:=(zf8 o2 (by omega)).2
      have O2n:=zc (o2.mono (by have:=HXA.out;have:=HSX.out;omega:w.heap.size+1≤(wx.alloc (.cells #[.string ⟨v.toArray⟩] 9)).drew.heap.size))
      have N2:Hid (∀ j u,[Value.string ⟨v.toArray⟩][j]? = some u→w2.cell? ((⟨wx.heap.size,0,none⟩:Addr).add j)=some u):=World.news_of_block (cs:=#[.string ⟨v.toArray⟩]) (t:=9) (fr:=(0,0)) ((b2.block wx.heap.size (by have:=HXA.out;omega)).trans HNA.out)
      have Z2:Hid (w.heap.size+1≤w2.heap.size):=Nat.le_trans (by have:=HXA.out;have:=HSX.out;omega) b2.size
      have G2:Hid (∀ k,(Value.slice (some ⟨g2,0,none⟩) 16 c2).ownBlock=some k→w.heap.size≤k):=fun k hk=>(by obtain⟨g',hg',hb',_⟩:=gb;cases hg';simp[Value.ownBlock] at hk;have:=HXA.out;have:=HSX.out;omega)
      have F2:Hid ((Value.slice (some ⟨g2,0,none⟩) 16 c2).ownBlock≠some w.heap.size):=(by obtain⟨g',hg',hb',_⟩:=gb;cases hg';rw[Hid];simp[Value.ownBlock];have:=HXA.out;have:=HSX.out;omega)
      clear q2' gb o2 b2))
 all_goals
  go_wp2
  go_ret
  exact⟨rfl,B4⟩
theorem zwm (k:Int) (p:List UInt8) (ls:List (List UInt8)) (v:List UInt8) (h:zba k p ls v=true) :
 p.length≤24∧zq p=true∧v.length≤60∧((k=1∧ls.length=0)∨(k=2∧ls.length=1∧(ls.getD 0 []).length=32)∨(k=3∧ls.length=16∧ls.all zao=true)):=by
 simp only[zba,zcg,kindOk,zcf,Bool.and_eq_true,decide_eq_true_eq] at h
 obtain⟨⟨h1,h2,h3⟩,h4⟩:=h
 refine⟨h1,h2,h3,?_⟩
 by_cases k1:k=1
 · rw[if_pos k1] at h4
   simp only[Bool.and_eq_true,decide_eq_true_eq] at h4
   exact .inl ⟨k1,h4.2⟩
 · rw [if_neg k1] at h4
   by_cases k2:k=2
   · rw[if_pos k2] at h4
     simp only[Bool.and_eq_true,decide_eq_true_eq] at h4
     exact .inr (.inl ⟨k2,h4.2.2.1,h4.2.2.2⟩)
   · rw[if_neg k2] at h4
     by_cases k3:k=3
     · rw[if_pos k3] at h4
       simp only[Bool.and_eq_true,decide_eq_true_eq] at h4
       exact .inr (.inr ⟨k3,h4.2.1,h4.2.2.1⟩)
     · rw[if_neg k3] at h4
       cases h4
theorem zjt {w:World} {a:Option Addr} {ls:List (List UInt8)} (h:zt w a ls) (h1:ls.length=1):∃ b off,a=some ⟨b,off,none⟩∧w.cell? ⟨b,off,none⟩=some (.string ⟨(ls.getD 0 []).toArray⟩):=by
 rcases h with h | ⟨b,off,h,hc⟩
 · rw[h] at h1;simp at h1
 · refine⟨b,off,h,?_⟩
   have:=hc 0 (by omega)
   rw[Nat.add_zero] at this
   rw[this,List.getD_eq_getElem?_getD,List.getElem?_eq_getElem (by omega)];rfl
theorem zwn (k:Int) (p:List UInt8) (a:Option Addr) (cap:Nat) (ls:List (List UInt8)) (v:List UInt8) (w:World) (h:zba k p ls v=true) (hs:zt w a ls) :
 Calls Tryz.prog 109 #[.agg #[.int .i64 k,.string ⟨p.toArray⟩,.slice a ls.length cap,.string ⟨v.toArray⟩]] w fun e w'=>e=.returned (.string ⟨(za8 (zhd k p ls v)).toArray⟩)∧Below w.heap.size w w':=by
 obtain⟨h1,h2,h3,h4⟩:=zwm k p ls v h
 rcases h4 with ⟨rfl,hl⟩ | ⟨rfl,hl,hk⟩ | ⟨rfl,hl,hk⟩
 · exact zo6 p a cap ls.length v w h1 h2 h3
 · obtain⟨b,off,rfl,hc⟩:=zjt hs hl
   rw[hl]
   exact zo7 p b off cap (ls.getD 0 []) v w h1 h2 hk hc
 · have hf:=zo2 ls hk
   rcases hs with rfl | ⟨b,off,rfl,hc⟩
   · simp at hl
   · have:=zo9 p b off cap ls v w hl (by omega) h3 (.inr ⟨b,off,rfl,hc⟩)
     rw[hl]
     exact this
theorem zwo (k:Int) (p:List UInt8) (a:Option Addr) (cap:Nat) (ls:List (List UInt8)) (v:List UInt8) (w:World) (hp:p.length≤1048576) (hv:v.length≤1048576) (hl:ls.length≤1048576) (hm:∀ l∈ls,l.length≤1048576) (hs:zt w a ls) :
 Calls Tryz.prog 132 #[.agg #[.int .i64 k,.string ⟨p.toArray⟩,.slice a ls.length cap,.string ⟨v.toArray⟩]] w fun e w'=>e=.returned (.tuple #[.string ⟨(zbn k p ls v).toArray⟩,.bool (zba k p ls v)])∧Below w.heap.size w w':=by
 have B0:Below w.heap.size w (w.alloc (.cells #[.int .i64 k,.string ⟨p.toArray⟩,.slice a ls.length cap,.string ⟨v.toArray⟩] 152)):=(Below.refl _ _).alloc (Nat.le_refl _) _
 have BB:Hid (Below w.heap.size w (w.alloc (.cells #[.int .i64 k,.string ⟨p.toArray⟩,.slice a ls.length cap,.string ⟨v.toArray⟩] 152))∧(w.alloc (.cells #[.int .i64 k,.string ⟨p.toArray⟩,.slice a ls.length cap,.string ⟨v.toArray⟩] 152)).heap[w.heap.size]? = some (.cells #[.int .i64 k,.string ⟨p.toArray⟩,.slice a ls.length cap,.string ⟨v.toArray⟩] 152 (0,0))∧w.heap.size<(w.alloc (.cells #[.int .i64 k,.string ⟨p.toArray⟩,.slice a ls.length cap,.string ⟨v.toArray⟩] 152)).heap.size):=⟨B0,heap_alloc_new w _,by simp⟩
 have KI:=zwl k p a cap ls v (w.alloc (.cells #[.int .i64 k,.string ⟨p.toArray⟩,.slice a ls.length cap,.string ⟨v.toArray⟩] 152)) hp hv hl hm (zay hs B0)
 have HS:Hid (∀ W,Below w.heap.size w W→zt W a ls):=fun W hW=>zay hs hW
 cases hok:zba k p ls v with
 | false =>
   have hnb:zbn k p ls v=[]:=by rw[zbn,hok];rfl
   rw[hok] at KI
   rw[hnb]
   clear hok hnb hs hm B0
   go_enter Tryz.func132,Tryz.ntmps132
   go_wp2_with fail
   refine KI.mono ?_
   rintro e w1 ⟨rfl,b1⟩
   have B1:=BB.out.1.trans (b1.mono BB.out.1.size)
   go_wp2
   go_ret2
   exact⟨rfl,B1⟩
 | true =>
   have HKT:Hid (∀ W,zt W a ls→Calls Tryz.prog 109 #[.agg #[.int .i64 k,.string ⟨p.toArray⟩,.slice a ls.length cap,.string ⟨v.toArray⟩]] W fun e w'=>e=.returned (.string ⟨(zbn k p ls v).toArray⟩)∧Below W.heap.size W w'):=fun W hW=>by
    rw[show zbn k p ls v=za8 (zhd k p ls v) from if_pos hok]
    exact zwn k p a cap ls v W hok hW
   rw[hok] at KI
   obtain⟨t,ht⟩:∃ t,t=zbn k p ls v:=⟨_,rfl⟩
   rw[←ht] at HKT ⊢
   clear hok ht hs hm B0
   go_enter Tryz.func132,Tryz.ntmps132
   go_wp2_with fail
   refine KI.mono ?_
   rintro e w1 ⟨rfl,b1⟩
   have B1:=BB.out.1.trans (b1.mono BB.out.1.size)
   obtain⟨q0,q1,q2,q3,_⟩:=zi ((b1.block _ BB.out.2.2).trans BB.out.2.1)
   clear KI b1
   go_wp2_with fail
   refine (HKT.out _ (HS.out _ B1)).mono ?_
   rintro e w2 ⟨rfl,b2⟩
   go_wp2
   go_ret2
   exact⟨rfl,B1.trans (b2.mono B1.size)⟩
end Go.Proofs.YtppljdnbhoeeoaaGreatDoor
