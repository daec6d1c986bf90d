import Derived.Test.YtgjddhlmmljabaaDoorStrsAll
import Derived.Test.YtgjddhlmmljabaaDoorStrsX
import Derived.Test.YtgjddhlmmljabaaDoorRows
import Derived.ProofKit
import Derived.SliceStrings
import Derived.Lib.SmallJoins
namespace Go.Proofs.YtgjddhlmmljabaaDoor
open Go.RowKit
set_option linter.unusedVariables false
def keysOk (ls:List (List UInt8)):Bool:=decide (ls.length % 2=1) && decide (ls.length≤7) && decide (∀ l∈ls,l.length=32)
theorem keysOk_even (ls:List (List UInt8)) (h:ls.length % 2=0):keysOk ls=false:=by simp[keysOk];omega
theorem keysOk_many (ls:List (List UInt8)) (h:7<ls.length):keysOk ls=false:=by simp[keysOk];omega
theorem keysOk_bad (ls:List (List UInt8)) (j:Nat) (h:j<ls.length) (hb:ls[j].length≠32):keysOk ls=false:=by
 have:¬ ∀ l∈ls,l.length=32:=fun hh=>hb (hh _ (List.getElem_mem _))
 rw[keysOk,decide_eq_false this,Bool.and_false]
theorem keysOk_yes (ls:List (List UInt8)) (h1:ls.length % 2=1) (h2:ls.length≤7) (h3:∀ l∈ls,l.length=32):keysOk ls=true:=by
 rw[keysOk,decide_eq_true h1,decide_eq_true h2,decide_eq_true h3];rfl
theorem keysOk_inv (ls:List (List UInt8)) (h:keysOk ls=true):ls.length % 2=1∧ls.length≤7∧∀ l∈ls,l.length=32:=by
 simp only[keysOk,Bool.and_eq_true,decide_eq_true_eq] at h
 exact⟨h.1.1,h.1.2,h.2⟩
set_option maxRecDepth 100000 in
set_option maxHeartbeats 1000000 in
theorem impl_areKeys (a : Option Addr) (cap : Nat) (ls : List (List UInt8)) (w : World) (hl : ls.length ≤ 1048576) (hm : ∀ l ∈ ls, l.length ≤ 1048576) (hs : IsStrs w a ls) :
 Calls Tryd.prog 38 #[.slice a ls.length cap] w fun e w'=>e=.returned (.bool (keysOk ls))∧w'=w:=by
 have HE:=keysOk_even ls
 have H7:=keysOk_many ls
 have HB:=keysOk_bad ls
 have HY:=keysOk_yes ls
 obtain⟨out,hout⟩:∃ out,out=keysOk ls:=⟨_,rfl⟩
 rw[←hout] at HE H7 HB HY ⊢
 clear hout
 have HHB:Hid (∀ j (h:j<ls.length),ls[j].length≠32→out=false):=HB
 have HHY:Hid (ls.length % 2=1→ls.length≤7→(∀ l∈ls,l.length=32)→out=true):=HY
 clear HB HY
 by_cases he:ls.length % 2=0
 · have HZ:Hid (out=false):=HE he
   have he':(ls.length:Int) % 2=0:=by omega
   clear HE H7 HHB HHY hs hm
   go_enter Tryd.func38,Tryd.ntmps38
   go_wp2
   go_ret
   exact⟨by cases HZ.out;rfl,rfl⟩
 · have he2 : ((ls.length : Int) % 2 == 0) = false := by simp; omega
   by_cases h7:ls.length≤7
   · have h7' : (ls.length : Int) ≤ 7 := by omega
     obtain⟨b,off,rfl,hc⟩:∃ b off,a=some ⟨b,off,none⟩∧∀ j (h:j<ls.length),w.cell? ⟨b,off+j,none⟩=some (.string ⟨ls[j].toArray⟩):=by
      rcases hs with h | h
      · rw[h] at he;simp at he
      · exact h
     have hm':∀ j (h:j<ls.length),ls[j].length≤1048576:=fun j h=>hm _ (List.getElem_mem _)
     clear HE H7 hm
     go_enter Tryd.func38,Tryd.ntmps38
     go_wp2
     go_loop [16] (fun i=>∃ j:Nat,j≤ls.length∧i=.int .i64 (j:Int)∧Hid (∀ l∈ls.take j,l.length=32)) (fun i=>ls.length - (intOf i).toNat)
     case atStart=>exact⟨0,Nat.zero_le _,rfl,by rw[Hid];simp⟩
     case round =>
      obtain⟨j,hj,rfl,HA⟩:=hrel
      by_cases hlt:j<ls.length
      · have c1:=hc j hlt
        have m1:=hm' j hlt
        have hj0:(0:Int)≤(j:Int):=by omega
        have hj1:(j:Int)<(ls.length:Int):=by omega
        have HS:Hid (ls[j].length=32→∀ l∈ls.take (j+1),l.length=32):=fun h l hl=>by
         rw[List.take_succ_eq_append_getElem hlt,List.mem_append] at hl
         rcases hl with hl | hl
         · exact HA.out l hl
         · simp at hl;rw[hl];exact h
        have HN:Hid (ls[j].length≠32→out=false):=HHB.out j hlt
        obtain⟨x,hx⟩:∃ x,x=ls[j]:=⟨_,rfl⟩
        rw[←hx] at c1 m1 HS HN
        clear hc hm' hx HA
        by_cases hx32:x.length=32
        · have m2:(x.length:Int)=32:=by omega
          go_wp2
          go_round
          case rel=>exact⟨j+1,by omega,by go_num,HS.out hx32⟩
          case measure=>simp[intOf];omega
        · have m2:¬ (x.length:Int)=32:=by omega
          go_wp2
          go_ret
          exact⟨by cases HN.out hx32;rfl,rfl⟩
      · have hjl:j=ls.length:=by omega
        subst hjl
        have HZ:Hid (out=true):=HHY.out (by omega) h7 (by have:=HA.out;rw[List.take_length] at this;exact this)
        go_wp2
        go_ret
        exact⟨by cases HZ.out;rfl,rfl⟩
   · have HZ:Hid (out=false):=H7 (by omega)
     have h7':¬ (ls.length:Int)≤7:=by omega
     clear HE H7 HHB HHY hs hm
     go_enter Tryd.func38,Tryd.ntmps38
     go_wp2
     go_ret
     exact⟨by cases HZ.out;rfl,rfl⟩
set_option maxRecDepth 100000 in
set_option maxHeartbeats 1000000 in
theorem spec_l11Keys (a : Option Addr) (cap : Nat) (ls : List (List UInt8)) (w : World) (hl : ls.length ≤ 1048576) (hm : ∀ l ∈ ls, l.length ≤ 1048576) (hs : IsStrs w a ls) :
 Calls Tryd.prog 30 #[.slice a ls.length cap] w fun e w'=>e=.returned (.bool (keysOk ls))∧w'=w:=by
 have HE:=keysOk_even ls
 have H7:=keysOk_many ls
 have HB:=keysOk_bad ls
 have HY:=keysOk_yes ls
 obtain⟨out,hout⟩:∃ out,out=keysOk ls:=⟨_,rfl⟩
 rw[←hout] at HE H7 HB HY ⊢
 clear hout
 have HHB:Hid (∀ j (h:j<ls.length),ls[j].length≠32→out=false):=HB
 have HHY:Hid (ls.length % 2=1→ls.length≤7→(∀ l∈ls,l.length=32)→out=true):=HY
 clear HB HY
 by_cases he:ls.length % 2=0
 · have HZ:Hid (out=false):=HE he
   have he':(ls.length:Int) % 2=0:=by omega
   clear HE H7 HHB HHY hs hm
   go_enter Tryd.func30,Tryd.ntmps30
   go_wp2
   go_ret
   exact⟨by cases HZ.out;rfl,rfl⟩
 · have he2 : ((ls.length : Int) % 2 == 0) = false := by simp; omega
   by_cases h7:ls.length≤7
   · have h7' : (ls.length : Int) ≤ 7 := by omega
     obtain⟨b,off,rfl,hc⟩:∃ b off,a=some ⟨b,off,none⟩∧∀ j (h:j<ls.length),w.cell? ⟨b,off+j,none⟩=some (.string ⟨ls[j].toArray⟩):=by
      rcases hs with h | h
      · rw[h] at he;simp at he
      · exact h
     have hm':∀ j (h:j<ls.length),ls[j].length≤1048576:=fun j h=>hm _ (List.getElem_mem _)
     clear HE H7 hm
     go_enter Tryd.func30,Tryd.ntmps30
     go_wp2
     go_loop [3] (fun i=>∃ j:Nat,j≤ls.length∧i=.int .i64 (j:Int)∧Hid (∀ l∈ls.take j,l.length=32)) (fun i=>ls.length - (intOf i).toNat)
     case atStart=>exact⟨0,Nat.zero_le _,rfl,by rw[Hid];simp⟩
     case round =>
      obtain⟨j,hj,rfl,HA⟩:=hrel
      by_cases hlt:j<ls.length
      · have c1:=hc j hlt
        have m1:=hm' j hlt
        have hj0:(0:Int)≤(j:Int):=by omega
        have hj1:(j:Int)<(ls.length:Int):=by omega
        have HS:Hid (ls[j].length=32→∀ l∈ls.take (j+1),l.length=32):=fun h l hl=>by
         rw[List.take_succ_eq_append_getElem hlt,List.mem_append] at hl
         rcases hl with hl | hl
         · exact HA.out l hl
         · simp at hl;rw[hl];exact h
        have HN:Hid (ls[j].length≠32→out=false):=HHB.out j hlt
        obtain⟨x,hx⟩:∃ x,x=ls[j]:=⟨_,rfl⟩
        rw[←hx] at c1 m1 HS HN
        clear hc hm' hx HA
        by_cases hx32:x.length=32
        · have m2:(x.length:Int)=32:=by omega
          go_wp2
          go_round
          case rel=>exact⟨j+1,by omega,by go_num,HS.out hx32⟩
          case measure=>simp[intOf];omega
        · have m2:¬ (x.length:Int)=32:=by omega
          go_wp2
          go_ret
          exact⟨by cases HN.out hx32;rfl,rfl⟩
      · have hjl:j=ls.length:=by omega
        subst hjl
        have HZ:Hid (out=true):=HHY.out (by omega) h7 (by have:=HA.out;rw[List.take_length] at this;exact this)
        go_wp2
        go_ret
        exact⟨by cases HZ.out;rfl,rfl⟩
   · have HZ:Hid (out=false):=H7 (by omega)
     have h7':¬ (ls.length:Int)≤7:=by omega
     clear HE H7 HHB HHY hs hm
     go_enter Tryd.func30,Tryd.ntmps30
     go_wp2
     go_ret
     exact⟨by cases HZ.out;rfl,rfl⟩
theorem cli_cells {w:World} {b:Nat} {u v x:Value} {t:TypeId} (h:w.heap[b]? = some (.cells #[u,v,x] t (0,0))) :
 w.cell? ⟨b,0,none⟩=some u∧w.cell? ⟨b,1,none⟩=some v∧w.cell? ⟨b,2,none⟩=some x∧∀ j,w.frozen? ⟨b,j,none⟩=false:=by
 refine⟨?_,?_,?_,fun j=>frozen_of_row w b j _ t h⟩ <;> simp only[World.cell?,h] <;> rfl
theorem cli_set {w:World} {b j:Nat} {u v x y:Value} {t:TypeId} (h:w.heap[b]? = some (.cells #[u,v,x] t (0,0))):(w.setCell ⟨b,j,none⟩ y).heap[b]? = some (.cells (#[u,v,x].setIfInBounds j y) t (0,0)):=by
 have hlt:=lt_of_block h
 have h':w.heap[b]=.cells #[u,v,x] t (0,0):=by simpa [Array.getElem?_eq_getElem hlt] using h
 show (w.heap.modify b _)[b]? = _
 rw[Array.getElem?_eq_getElem (by simpa using hlt),Array.getElem_modify_self,h']
 rfl
theorem keptK {w w':World} {base e n:Nat} {v:Value} {xs:List Value} (h:w.ownsRow base e 1 v n xs) (hb:Below w.heap.size w w'):w'.ownsRow base e 1 v n xs:=h.kept (row:=none) ⟨hb.os,hb.tape,hb.output,hb.size,fun k hk _=>hb.block k hk⟩ (by cases v.ownBlock with | none=>exact .inl rfl | some k=>exact .inr (by simp))
def numIn (s a b:Int):Bool:=decide (a≤s) && decide (s≤b)
def clientOk (ls:List (List UInt8)) (s n:Int):Bool:=keysOk ls && (numIn s 0 1000000000000 && numIn n 1 1000000000000)
theorem numIn_yes (s a b:Int) (h1:a≤s) (h2:s≤b):numIn s a b=true:=by simp[numIn,h1,h2]
theorem numIn_low (s a b:Int) (h1:¬ a≤s):numIn s a b=false:=by simp[numIn,h1]
theorem numIn_high (s a b:Int) (h1:¬ s≤b):numIn s a b=false:=by simp[numIn,h1]
set_option maxRecDepth 100000 in
theorem l1In_is (n a b:Int) (w:World) :
 Calls Tryd.prog 31 #[.int .i64 n,.int .i64 a,.int .i64 b] w fun e w'=>e=.returned (.bool (numIn n a b))∧w'=w:=by
 by_cases h1:a≤n
 · by_cases h2:n≤b
   · have HZ:Hid (numIn n a b=true):=numIn_yes n a b h1 h2
     go_enter Tryd.func31,Tryd.ntmps31
     go_wp2
     go_ret
     exact⟨by rw[HZ.out];rfl,rfl⟩
   · have HZ:Hid (numIn n a b=false):=numIn_high n a b h2
     go_enter Tryd.func31,Tryd.ntmps31
     go_wp2
     go_ret
     exact⟨by rw[HZ.out];rfl,rfl⟩
 · have HZ:Hid (numIn n a b=false):=numIn_low n a b h1
   go_enter Tryd.func31,Tryd.ntmps31
   go_wp2
   go_ret
   exact⟨by rw[HZ.out];rfl,rfl⟩
set_option maxRecDepth 100000 in
set_option maxHeartbeats 1000000 in
theorem spec_clientOk (a:Option Addr) (cap:Nat) (ls:List (List UInt8)) (s n:Int) (w:World) (hl:ls.length≤1048576) (hm:∀ l∈ls,l.length≤1048576) (hs:IsStrs w a ls) :
 Calls Tryd.prog 16 #[.agg #[.slice a ls.length cap,.int .i64 s,.int .i64 n]] w fun e w'=>e=.returned (.bool (clientOk ls s n))∧Below w.heap.size w w':=by
 have B0:Below w.heap.size w (w.alloc (.cells #[.slice a ls.length cap,.int .i64 s,.int .i64 n] 26)):=(Below.refl _ _).alloc (Nat.le_refl _) _
 have K1:=spec_l11Keys a cap ls (w.alloc (.cells #[.slice a ls.length cap,.int .i64 s,.int .i64 n] 26)) hl hm (strs_later hs B0)
 have K2:=fun W=>l1In_is s 0 1000000000000 W
 have K3:=fun W=>l1In_is n 1 1000000000000 W
 have HD:Hid (clientOk ls s n=(keysOk ls && (numIn s 0 1000000000000 && numIn n 1 1000000000000))):=rfl
 have q0:=cli_cells (heap_alloc_new w (.cells #[.slice a ls.length cap,.int .i64 s,.int .i64 n] 26))
 obtain⟨c0,c1,c2,_⟩:=q0
 obtain⟨kb,hkb⟩:∃ kb,kb=keysOk ls:=⟨_,rfl⟩
 obtain⟨sb,hsb⟩:∃ sb,sb=numIn s 0 1000000000000:=⟨_,rfl⟩
 obtain⟨nb,hnb⟩:∃ nb,nb=numIn n 1 1000000000000:=⟨_,rfl⟩
 rw[←hkb] at K1 HD
 rw[←hsb] at K2 HD
 rw[←hnb] at K3 HD
 clear hkb hsb hnb hs hm
 go_enter Tryd.func16,Tryd.ntmps16
 go_wp2_with fail
 refine K1.mono ?_
 rintro e w1 ⟨rfl,rfl⟩
 cases kb with
 | false =>
   go_wp2
   go_ret
   exact⟨by rw[HD.out];rfl,B0⟩
 | true =>
   go_wp2_with fail
   refine (K2 _).mono ?_
   rintro e w1 ⟨rfl,rfl⟩
   cases sb with
   | false =>
     go_wp2
     go_ret
     exact⟨by rw[HD.out];rfl,B0⟩
   | true =>
     go_wp2_with fail
     refine (K3 _).mono ?_
     rintro e w1 ⟨rfl,rfl⟩
     go_wp2
     go_ret
     exact⟨by rw[HD.out];rfl,B0⟩
set_option maxRecDepth 100000 in
set_option maxHeartbeats 1000000 in
theorem impl_clientOk (a:Option Addr) (cap:Nat) (ls:List (List UInt8)) (s n:Int) (w:World) (hl:ls.length≤1048576) (hm:∀ l∈ls,l.length≤1048576) (hs:IsStrs w a ls) :
 Calls Tryd.prog 26 #[.agg #[.slice a ls.length cap,.int .i64 s,.int .i64 n]] w fun e w'=>e=.returned (.bool (clientOk ls s n))∧Below w.heap.size w w':=by
 have B0:Below w.heap.size w (w.alloc (.cells #[.slice a ls.length cap,.int .i64 s,.int .i64 n] 26)):=(Below.refl _ _).alloc (Nat.le_refl _) _
 have K1:=impl_areKeys a cap ls (w.alloc (.cells #[.slice a ls.length cap,.int .i64 s,.int .i64 n] 26)) hl hm (strs_later hs B0)
 have HD:Hid (clientOk ls s n=(keysOk ls && (numIn s 0 1000000000000 && numIn n 1 1000000000000))):=rfl
 obtain⟨c0,c1,c2,_⟩:=cli_cells (heap_alloc_new w (.cells #[.slice a ls.length cap,.int .i64 s,.int .i64 n] 26))
 obtain⟨kb,hkb⟩:∃ kb,kb=keysOk ls:=⟨_,rfl⟩
 rw[←hkb] at K1 HD
 clear hkb hs hm
 go_enter Tryd.func26,Tryd.ntmps26
 go_wp2_with fail
 refine K1.mono ?_
 rintro e w1 ⟨rfl,rfl⟩
 cases kb with
 | false =>
   go_wp2
   go_ret
   exact⟨by rw[HD.out];rfl,B0⟩
 | true =>
   by_cases s1:0≤s
   · by_cases s2:s≤1000000000000
     · by_cases n1:1≤n
       · by_cases n2:n≤1000000000000
         · have HZ:Hid (clientOk ls s n=true):=by rw[Hid,HD.out,numIn_yes _ _ _ s1 s2,numIn_yes _ _ _ n1 n2];rfl
           go_wp2
           go_ret
           exact⟨by rw[HZ.out];rfl,B0⟩
         · have HZ:Hid (clientOk ls s n=false):=by rw[Hid,HD.out,numIn_high _ _ _ n2,Bool.and_false];rfl
           have HQ:Hid (decide (n≤1000000000000)=false):=decide_eq_false n2
           go_wp2
           go_ret
           exact⟨by rw[HZ.out];show Ending.returned (.bool (decide (n≤1000000000000)))=_;rw[HQ.out],B0⟩
       · have HZ:Hid (clientOk ls s n=false):=by rw[Hid,HD.out,numIn_low _ _ _ n1,Bool.and_false];rfl
         go_wp2
         go_ret
         exact⟨by rw[HZ.out];rfl,B0⟩
     · have HZ:Hid (clientOk ls s n=false):=by rw[Hid,HD.out,numIn_high _ _ _ s2];rfl
       go_wp2
       go_ret
       exact⟨by rw[HZ.out];rfl,B0⟩
   · have HZ:Hid (clientOk ls s n=false):=by rw[Hid,HD.out,numIn_low _ _ _ s1];rfl
     go_wp2
     go_ret
     exact⟨by rw[HZ.out];rfl,B0⟩
open Go.ChangeShapes Go.WideShapes Go.ChangeAt Go.RowKit
theorem cstrs_of {H:Type} {enc:TypeId × Value→H} {W:World} {fuel:Nat} {u:Value} {y:DataW H × List MemPlace} (hf:DataW.trod enc Tryd.prog W 0 (fun _=>true) true fuel 24 [u]=some y) :
 ∃ (a:Option Addr) (ls:List (List UInt8)) (cap:Nat),u=.slice a ls.length cap∧(∀ l∈ls,l.length≤9223372036854775807)∧IsStrs W a ls∧ls.length≤9223372036854775807:=by
 rcases open_strings Tryd.underlying24 Tryd.underlying9 (by kernel_rfl) hf with ⟨hcs,_⟩ | ⟨x,l,c,ss,hcs,_,hl,hm,hz,_,hcell,hwz⟩
 · simp at hcs
   exact⟨none,[],0,hcs,by simp,.inl rfl,by simp⟩
 · simp at hcs
   unfold maxLen at hm
   have hz':ss.length=c:=by simpa using hz
   refine⟨some x,(ss.take l).map (·.data.toList),c,by rw[hcs];simp;omega,?_,?_,by simp;omega⟩
   · intro l hlm
     simp only[List.mem_map] at hlm
     obtain⟨s,hs1,rfl⟩:=hlm
     have:=hwz s (List.mem_of_mem_take hs1)
     unfold maxLen at this
     rw[Array.length_toList];exact this
   · by_cases h0:l=0
     · exact .inl (by simp[h0])
     · obtain⟨b,off,spot⟩:=x
       have hc:=hcell 0 (by omega)
       have hspot:spot=none:=by simpa [Addr.add] using World.cell?_spot hc
       subst hspot
       refine .inr ⟨b,off,rfl,fun j hj=>?_⟩
       simp at hj
       have hjs:j<ss.length:=by omega
       have hcj:=hcell j hjs
       have e1:(⟨b,off,none⟩:Addr).add j=⟨b,off+j,none⟩:=by simp[Addr.add]
       rw[e1,List.getD_eq_getElem?_getD,List.getElem?_eq_getElem hjs,Option.getD_some] at hcj
       rw[hcj]
       simp only[List.getElem_map,List.getElem_take]
end Go.Proofs.YtgjddhlmmljabaaDoor
