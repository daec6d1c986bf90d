/-
 Contracts: right keys, of the program and of the model (written by mkkeysok.py).
-/
import Derived.Test.YtbpgpmchnjbclaaDoorStrsAll
import Derived.Test.YtbpgpmchnjbclaaDoorStrsX
namespace Go.Proofs.YtbpgpmchnjbclaaDoor
open Go.RowKit
set_option linter.unusedVariables false
def keysOk (ls:List (List UInt8)):Bool:=decide (ls.length % 2=1) && decide (ls.length≤7) && decide (∀ l∈ls,l.length=32)
theorem keysOk_even (ls:List (List UInt8)) (h:ls.length % 2=0):keysOk ls=false:=by simp[keysOk];omega
theorem keysOk_many (ls:List (List UInt8)) (h:7<ls.length):keysOk ls=false:=by simp[keysOk];omega
theorem keysOk_bad (ls:List (List UInt8)) (j:Nat) (h:j<ls.length) (hb:ls[j].length≠32):keysOk ls=false:=by
 have:¬ ∀ l∈ls,l.length=32:=fun hh=>hb (hh _ (List.getElem_mem _))
 rw[keysOk,decide_eq_false this,Bool.and_false]
theorem keysOk_yes (ls:List (List UInt8)) (h1:ls.length % 2=1) (h2:ls.length≤7) (h3:∀ l∈ls,l.length=32):keysOk ls=true:=by
 rw[keysOk,decide_eq_true h1,decide_eq_true h2,decide_eq_true h3];rfl
theorem keysOk_inv (ls:List (List UInt8)) (h:keysOk ls=true):ls.length % 2=1∧ls.length≤7∧∀ l∈ls,l.length=32:=by
 simp only[keysOk,Bool.and_eq_true,decide_eq_true_eq] at h
 exact⟨h.1.1,h.1.2,h.2⟩
set_option maxRecDepth 100000 in
set_option maxHeartbeats 1000000 in
theorem impl_areKeys (a : Option Addr) (cap : Nat) (ls : List (List UInt8)) (w : World) (hl : ls.length ≤ 1048576) (hm : ∀ l ∈ ls, l.length ≤ 1048576) (hs : IsStrs w a ls) :
 Calls Tryd.prog 58 #[.slice a ls.length cap] w fun e w'=>e=.returned (.bool (keysOk ls))∧w'=w:=by
 have HE:=keysOk_even ls
 have H7:=keysOk_many ls
 have HB:=keysOk_bad ls
 have HY:=keysOk_yes ls
 obtain⟨out,hout⟩:∃ out,out=keysOk ls:=⟨_,rfl⟩
 rw[←hout] at HE H7 HB HY ⊢
 clear hout
 have HHB:Hid (∀ j (h:j<ls.length),ls[j].length≠32→out=false):=HB
 have HHY:Hid (ls.length % 2=1→ls.length≤7→(∀ l∈ls,l.length=32)→out=true):=HY
 clear HB HY
 by_cases he:ls.length % 2=0
 · have HZ:Hid (out=false):=HE he
   have he':(ls.length:Int) % 2=0:=by omega
   clear HE H7 HHB HHY hs hm
   go_enter Tryd.func58,Tryd.ntmps58
   go_wp2
   go_ret
   exact⟨by cases HZ.out;rfl,rfl⟩
 · have he2 : ((ls.length : Int) % 2 == 0) = false := by simp; omega
   by_cases h7:ls.length≤7
   · have h7' : (ls.length : Int) ≤ 7 := by omega
     obtain⟨b,off,rfl,hc⟩:∃ b off,a=some ⟨b,off,none⟩∧∀ j (h:j<ls.length),w.cell? ⟨b,off+j,none⟩=some (.string ⟨ls[j].toArray⟩):=by
      rcases hs with h | h
      · rw[h] at he;simp at he
      · exact h
     have hm':∀ j (h:j<ls.length),ls[j].length≤1048576:=fun j h=>hm _ (List.getElem_mem _)
     clear HE H7 hm
     go_enter Tryd.func58,Tryd.ntmps58
     go_wp2
     go_loop [16] (fun i=>∃ j:Nat,j≤ls.length∧i=.int .i64 (j:Int)∧Hid (∀ l∈ls.take j,l.length=32)) (fun i=>ls.length - (intOf i).toNat)
     case atStart=>exact⟨0,Nat.zero_le _,rfl,by rw[Hid];simp⟩
     case round =>
      obtain⟨j,hj,rfl,HA⟩:=hrel
      by_cases hlt:j<ls.length
      · have c1:=hc j hlt
        have m1:=hm' j hlt
        have hj0:(0:Int)≤(j:Int):=by omega
        have hj1:(j:Int)<(ls.length:Int):=by omega
        have HS:Hid (ls[j].length=32→∀ l∈ls.take (j+1),l.length=32):=fun h l hl=>by
         rw[List.take_succ_eq_append_getElem hlt,List.mem_append] at hl
         rcases hl with hl | hl
         · exact HA.out l hl
         · simp at hl;rw[hl];exact h
        have HN:Hid (ls[j].length≠32→out=false):=HHB.out j hlt
        obtain⟨x,hx⟩:∃ x,x=ls[j]:=⟨_,rfl⟩
        rw[←hx] at c1 m1 HS HN
        clear hc hm' hx HA
        by_cases hx32:x.length=32
        · have m2:(x.length:Int)=32:=by omega
          go_wp2
          go_round
          case rel=>exact⟨j+1,by omega,by go_num,HS.out hx32⟩
          case measure=>simp[intOf];omega
        · have m2:¬ (x.length:Int)=32:=by omega
          go_wp2
          go_ret
          exact⟨by cases HN.out hx32;rfl,rfl⟩
      · have hjl:j=ls.length:=by omega
        subst hjl
        have HZ:Hid (out=true):=HHY.out (by omega) h7 (by have:=HA.out;rw[List.take_length] at this;exact this)
        go_wp2
        go_ret
        exact⟨by cases HZ.out;rfl,rfl⟩
   · have HZ:Hid (out=false):=H7 (by omega)
     have h7':¬ (ls.length:Int)≤7:=by omega
     clear HE H7 HHB HHY hs hm
     go_enter Tryd.func58,Tryd.ntmps58
     go_wp2
     go_ret
     exact⟨by cases HZ.out;rfl,rfl⟩
set_option maxRecDepth 100000 in
set_option maxHeartbeats 1000000 in
theorem spec_l11Keys (a : Option Addr) (cap : Nat) (ls : List (List UInt8)) (w : World) (hl : ls.length ≤ 1048576) (hm : ∀ l ∈ ls, l.length ≤ 1048576) (hs : IsStrs w a ls) :
 Calls Tryd.prog 43 #[.slice a ls.length cap] w fun e w'=>e=.returned (.bool (keysOk ls))∧w'=w:=by
 have HE:=keysOk_even ls
 have H7:=keysOk_many ls
 have HB:=keysOk_bad ls
 have HY:=keysOk_yes ls
 obtain⟨out,hout⟩:∃ out,out=keysOk ls:=⟨_,rfl⟩
 rw[←hout] at HE H7 HB HY ⊢
 clear hout
 have HHB:Hid (∀ j (h:j<ls.length),ls[j].length≠32→out=false):=HB
 have HHY:Hid (ls.length % 2=1→ls.length≤7→(∀ l∈ls,l.length=32)→out=true):=HY
 clear HB HY
 by_cases he:ls.length % 2=0
 · have HZ:Hid (out=false):=HE he
   have he':(ls.length:Int) % 2=0:=by omega
   clear HE H7 HHB HHY hs hm
   go_enter Tryd.func43,Tryd.ntmps43
   go_wp2
   go_ret
   exact⟨by cases HZ.out;rfl,rfl⟩
 · have he2 : ((ls.length : Int) % 2 == 0) = false := by simp; omega
   by_cases h7:ls.length≤7
   · have h7' : (ls.length : Int) ≤ 7 := by omega
     obtain⟨b,off,rfl,hc⟩:∃ b off,a=some ⟨b,off,none⟩∧∀ j (h:j<ls.length),w.cell? ⟨b,off+j,none⟩=some (.string ⟨ls[j].toArray⟩):=by
      rcases hs with h | h
      · rw[h] at he;simp at he
      · exact h
     have hm':∀ j (h:j<ls.length),ls[j].length≤1048576:=fun j h=>hm _ (List.getElem_mem _)
     clear HE H7 hm
     go_enter Tryd.func43,Tryd.ntmps43
     go_wp2
     go_loop [3] (fun i=>∃ j:Nat,j≤ls.length∧i=.int .i64 (j:Int)∧Hid (∀ l∈ls.take j,l.length=32)) (fun i=>ls.length - (intOf i).toNat)
     case atStart=>exact⟨0,Nat.zero_le _,rfl,by rw[Hid];simp⟩
     case round =>
      obtain⟨j,hj,rfl,HA⟩:=hrel
      by_cases hlt:j<ls.length
      · have c1:=hc j hlt
        have m1:=hm' j hlt
        have hj0:(0:Int)≤(j:Int):=by omega
        have hj1:(j:Int)<(ls.length:Int):=by omega
        have HS:Hid (ls[j].length=32→∀ l∈ls.take (j+1),l.length=32):=fun h l hl=>by
         rw[List.take_succ_eq_append_getElem hlt,List.mem_append] at hl
         rcases hl with hl | hl
         · exact HA.out l hl
         · simp at hl;rw[hl];exact h
        have HN:Hid (ls[j].length≠32→out=false):=HHB.out j hlt
        obtain⟨x,hx⟩:∃ x,x=ls[j]:=⟨_,rfl⟩
        rw[←hx] at c1 m1 HS HN
        clear hc hm' hx HA
        by_cases hx32:x.length=32
        · have m2:(x.length:Int)=32:=by omega
          go_wp2
          go_round
          case rel=>exact⟨j+1,by omega,by go_num,HS.out hx32⟩
          case measure=>simp[intOf];omega
        · have m2:¬ (x.length:Int)=32:=by omega
          go_wp2
          go_ret
          exact⟨by cases HN.out hx32;rfl,rfl⟩
      · have hjl:j=ls.length:=by omega
        subst hjl
        have HZ:Hid (out=true):=HHY.out (by omega) h7 (by have:=HA.out;rw[List.take_length] at this;exact this)
        go_wp2
        go_ret
        exact⟨by cases HZ.out;rfl,rfl⟩
   · have HZ:Hid (out=false):=H7 (by omega)
     have h7':¬ (ls.length:Int)≤7:=by omega
     clear HE H7 HHB HHY hs hm
     go_enter Tryd.func43,Tryd.ntmps43
     go_wp2
     go_ret
     exact⟨by cases HZ.out;rfl,rfl⟩
end Go.Proofs.YtbpgpmchnjbclaaDoor
