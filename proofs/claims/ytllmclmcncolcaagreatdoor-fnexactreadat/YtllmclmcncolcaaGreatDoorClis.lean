import Derived.Test.YtllmclmcncolcaaGreatDoorMathAll
import Derived.Test.YtllmclmcncolcaaGreatDoorWrapTxt
import Derived.Test.YtllmclmcncolcaaGreatDoorISigs
import Derived.Test.YtllmclmcncolcaaGreatDoorSSigs
import Derived.Test.YtllmclmcncolcaaGreatDoorStrsAll
import Derived.Test.YtllmclmcncolcaaGreatDoorIListAll
import Derived.Test.YtllmclmcncolcaaGreatDoorRows
import Derived.ProofKit
import Derived.SliceStrings
import Derived.Lib.SmallJoins
import Derived.Laws.AppendOwnNone
import Derived.Test.YtllmclmcncolcaaGreatDoorBats
import Derived.Test.YtllmclmcncolcaaGreatDoorChecked
import Derived.WalkKit
import Derived.LaidEql
import Derived.Stop.Asserts
import Derived.RowKitTokens
import Derived.Below
import Derived.Stop.IfaceNil
namespace Go.Proofs.YtllmclmcncolcaaGreatDoor
open Go.RowKit
set_option linter.unusedVariables false
theorem bigB_succ (n k:Nat):bigB n (k+1)=bigB (n / 256) k ++ [UInt8.ofNat n]:=by
 simp only[bigB,List.range_succ,List.map_append,List.map_cons,List.map_nil]
 have e:n / 2 ^ (8*(k+1 - 1 - k))=n:=by simp
 rw[e]
 congr 1
 refine List.map_congr_left fun j hj=>?_
 have hj':=List.mem_range.1 hj
 have e2:8*(k+1 - 1 - j)=8+8*(k - 1 - j):=by omega
 rw[e2,Nat.pow_add,←Nat.div_div_eq_div_mul]
theorem dropZ_bigB : ∀ (k n : Nat), n < 256 ^ k → (bigB n k).dropWhile (· == 0) = numB k n
 | 0,n,h=>rfl
 | k + 1, n, h => by
   have ih:=dropZ_bigB k (n / 256) (by rw[Nat.pow_succ] at h;omega)
   rw[bigB_succ,List.dropWhile_append,ih]
   by_cases h0:n=0
   · subst h0
     simp[numB_zero]
   · rw [numB, if_neg h0]
     by_cases h1:n / 256=0
     · rw[h1,numB_zero]
       have hb:UInt8.ofNat n≠0:=fun e=>by
        have:=congrArg UInt8.toNat e
        simp at this
        omega
       simp[hb]
     · have hne:(numB k (n / 256)).isEmpty=false:=by
        cases k with
        | zero=>simp at h;omega
        | succ k=>rw[numB,if_neg h1];simp
       simp[hne]
theorem dropZ_zero (r:List UInt8):(0 :: r).dropWhile (· == 0)=r.dropWhile (· == 0):=by simp
theorem dropZ_stop (a:UInt8) (r:List UInt8) (h:a≠0):(a :: r).dropWhile (· == 0)=a :: r:=by simp[h]
theorem numB_len:∀ (f n:Nat),(numB f n).length≤f
 | 0,n=>by simp[numB]
 | f + 1, n => by
   rw[numB]
   split
   · simp
   · have:=numB_len f (n / 256);simp;omega
set_option maxRecDepth 100000 in
set_option maxHeartbeats 400000 in
theorem spec_l1Num (n:Nat) (w:World) (hn:n≤1000000000000) :
 Calls Tryz.prog 79 #[.int .i64 n] w fun e w'=>e=.returned (.string ⟨(numB 8 n).toArray⟩)∧Below w.heap.size w w':=by
 have hcv:(IntKind.u64).wrap (n:Int)=(n:Int):=by simp[IntKind.wrap,IntKind.signed,IntKind.bits];omega
 have HS:(bigB n 8).dropWhile (· == 0)=numB 8 n:=dropZ_bigB 8 n (by omega)
 have HZ:=bigB_length n 8
 go_enter Tryz.func79,Tryz.ntmps79
 go_wp2_with fail
 refine (spec_l1Big n 8 _ (by omega) (by omega)).mono ?_
 rintro e w1 ⟨rfl,hb1⟩
 go_wp2
 go_loop [3] (fun v=>∃ l:List UInt8,v=.string ⟨l.toArray⟩∧l.length≤8∧Hid (l.dropWhile (· == 0)=numB 8 n)) (fun v=>match v with | .string s=>s.size | _=>0)
 case atStart=>exact⟨_,rfl,by rw[HZ];omega,HS⟩
 case round =>
  obtain⟨l,rfl,hl,HL⟩:=hrel
  clear HS HZ
  match l,hl,HL with
  | [], hl, HL =>
    go_wp2
    go_ret
    exact⟨ret_string (by rw[←HL.out];rfl),hb1⟩
  | a :: r, hl, HL =>
    by_cases ha:a=0
    · subst ha
      go_wp2
      go_round
      case rel=>exact⟨r,congrArg Value.string (ba_tail (0 :: r)),by simp at hl ⊢;omega,by rw[Hid,←HL.out,dropZ_zero]⟩
      case measure=>simp[ByteArray.size]
    · have ha':((((ByteArray.mk (a :: r).toArray)[0]'(by simp[ByteArray.size])).toNat:Int) == 0)=false:=by
       show ((a.toNat:Int) == 0)=false
       simp only[beq_eq_false_iff_ne,ne_eq]
       intro h
       exact ha (UInt8.toNat_inj.1 (by simpa using h))
      have HR:Hid (a :: r=numB 8 n):=by rw[Hid,←HL.out];exact (dropZ_stop a r ha).symm
      go_wp2
      go_ret
      exact⟨ret_string HR.out,hb1⟩
def tCheck:List UInt8:=[99,104,101,99,107,112,111,105,110,116]
def chkL (n:Nat) (r:List UInt8):List UInt8:=tagL tCheck [numB 8 n,r]
theorem chkL_len (n:Nat) (r:List UInt8) (h:r.length=32):(chkL n r).length=32:=tagL_len _ _ (by simp) (by have:=numB_len 8 n;simp[tCheck,h];omega)
set_option maxRecDepth 100000 in
set_option maxHeartbeats 400000 in
theorem impl_check (n:Nat) (r:List UInt8) (w:World) (hn:n≤1000000000000) (hr:r.length=32) (hT:Tab w) :
 Calls Tryz.prog 89 #[.int .i64 (n:Int),.string ⟨r.toArray⟩] w fun e w'=>e=.returned (.tuple #[.string ⟨(chkL n r).toArray⟩,.bool true])∧Below w.heap.size w w':=by
 have HT:Hid (Tab w):=hT
 have hr':(r.length:Int)=32:=by omega
 have hn0:¬ (n:Int)<0:=by omega
 have hn1:(n:Int)≤1000000000000:=by omega
 have K1:=impl_numberText n w (by omega)
 have K2:=fun W hW=>itag2 tCheck (numB 8 n) r W (by decide) (by have:=numB_len 8 n;omega) hW
 have HE:Hid (chkL n r=tagL tCheck [numB 8 n,r]):=rfl
 rw[←HE.out] at K2
 obtain⟨y,hy⟩:∃ y,y=chkL n r:=⟨_,rfl⟩
 rw[←hy] at K2 ⊢
 obtain⟨p,hp⟩:∃ p,p=numB 8 n:=⟨_,rfl⟩
 rw[←hp] at K1 K2
 clear hT HE hy hp
 go_enter Tryz.func89,Tryz.ntmps89
 go_wp2_with fail
 refine K1.mono ?_
 rintro e w1 ⟨rfl,b1⟩
 go_wp2_with fail
 refine (K2 w1 (HT.out.later b1)).mono ?_
 rintro e w2 ⟨rfl,b2⟩
 have B2:=b1.trans (b2.mono b1.size)
 go_wp2
 go_ret2
 exact⟨rfl,B2⟩
set_option maxRecDepth 100000 in
set_option maxHeartbeats 400000 in
theorem impl_check_no (n:Int) (r:List UInt8) (w:World) (hl:r.length≤1048576) (h:¬ (0≤n∧n≤1000000000000∧r.length=32)) :
 Calls Tryz.prog 89 #[.int .i64 n,.string ⟨r.toArray⟩] w fun e w'=>e=.returned (.tuple #[.string ⟨#[]⟩,.bool false])∧w'=w:=by
 by_cases h0:0≤n
 · by_cases h1:n≤1000000000000
   · have hr':¬ (r.length:Int)=32:=fun e=>h ⟨h0,h1,by omega⟩
     have hr2:((r.length:Int) != 32)=true:=by simp;omega
     have hr3:((r.length:Int) == 32)=false:=by simp;omega
     clear h
     go_enter Tryz.func89,Tryz.ntmps89
     go_wp2
     go_ret2
     exact⟨rfl,rfl⟩
   · clear h
     go_enter Tryz.func89,Tryz.ntmps89
     go_wp2
     go_ret2
     exact⟨rfl,rfl⟩
 · clear h
   go_enter Tryz.func89,Tryz.ntmps89
   go_wp2
   go_ret2
   exact⟨rfl,rfl⟩
set_option maxRecDepth 100000 in
set_option maxHeartbeats 400000 in
theorem spec_check (n:Nat) (r:List UInt8) (w:World) (hn:n≤1000000000000) (hr:r.length=32) :
 Calls Tryz.prog 54 #[.int .i64 (n:Int),.string ⟨r.toArray⟩] w fun e w'=>e=.returned (.tuple #[.string ⟨(chkL n r).toArray⟩,.bool true])∧Below w.heap.size w w':=by
 have hr':(r.length:Int)=32:=by omega
 have K0:=l1In_yes (n:Int) 0 1000000000000 w (by omega)
 have K1:=spec_l1Num n w (by omega)
 have K2:=fun W=>stag2 tCheck (numB 8 n) r W (by decide) (by have:=numB_len 8 n;omega)
 have HE:Hid (chkL n r=tagL tCheck [numB 8 n,r]):=rfl
 rw[←HE.out] at K2
 obtain⟨y,hy⟩:∃ y,y=chkL n r:=⟨_,rfl⟩
 rw[←hy] at K2 ⊢
 obtain⟨p,hp⟩:∃ p,p=numB 8 n:=⟨_,rfl⟩
 rw[←hp] at K1 K2
 clear HE hy hp
 go_enter Tryz.func54,Tryz.ntmps54
 go_wp2_with fail
 refine K0.mono ?_
 rintro e w0 ⟨rfl,rfl⟩
 go_wp2_with fail
 refine K1.mono ?_
 rintro e w1 ⟨rfl,b1⟩
 go_wp2_with fail
 refine (K2 w1).mono ?_
 rintro e w2 ⟨rfl,b2⟩
 have B2:=b1.trans (b2.mono b1.size)
 go_wp2
 go_ret2
 exact⟨rfl,B2⟩
set_option maxRecDepth 100000 in
set_option maxHeartbeats 400000 in
theorem spec_check_no (n:Int) (r:List UInt8) (w:World) (hl:r.length≤1048576) (h:¬ (0≤n∧n≤1000000000000∧r.length=32)) :
 Calls Tryz.prog 54 #[.int .i64 n,.string ⟨r.toArray⟩] w fun e w'=>e=.returned (.tuple #[.string ⟨#[]⟩,.bool false])∧w'=w:=by
 by_cases h0:0≤n∧n≤1000000000000
 · have hr':¬ (r.length:Int)=32:=fun e=>h ⟨h0.1,h0.2,by omega⟩
   have K0:=l1In_yes n 0 1000000000000 w h0
   clear h h0
   go_enter Tryz.func54,Tryz.ntmps54
   go_wp2_with fail
   refine K0.mono ?_
   rintro e w0 ⟨rfl,rfl⟩
   go_wp2
   go_ret2
   exact⟨rfl,rfl⟩
 · have K0:=l1In_no n 0 1000000000000 w h0
   clear h h0
   go_enter Tryz.func54,Tryz.ntmps54
   go_wp2_with fail
   refine K0.mono ?_
   rintro e w0 ⟨rfl,rfl⟩
   go_wp2
   go_ret2
   exact⟨rfl,rfl⟩
def keysOk (ls:List (List UInt8)):Bool:=decide (ls.length % 2=1) && decide (ls.length≤7) && decide (∀ l∈ls,l.length=32)
theorem keysOk_even (ls:List (List UInt8)) (h:ls.length % 2=0):keysOk ls=false:=by simp[keysOk];omega
theorem keysOk_many (ls:List (List UInt8)) (h:7<ls.length):keysOk ls=false:=by simp[keysOk];omega
theorem keysOk_bad (ls:List (List UInt8)) (j:Nat) (h:j<ls.length) (hb:ls[j].length≠32):keysOk ls=false:=by
 have:¬ ∀ l∈ls,l.length=32:=fun hh=>hb (hh _ (List.getElem_mem _))
 rw[keysOk,decide_eq_false this,Bool.and_false]
theorem keysOk_yes (ls:List (List UInt8)) (h1:ls.length % 2=1) (h2:ls.length≤7) (h3:∀ l∈ls,l.length=32):keysOk ls=true:=by
 rw[keysOk,decide_eq_true h1,decide_eq_true h2,decide_eq_true h3];rfl
set_option maxRecDepth 100000 in
set_option maxHeartbeats 1000000 in
theorem impl_areKeys (a : Option Addr) (cap : Nat) (ls : List (List UInt8)) (w : World) (hl : ls.length ≤ 1048576) (hm : ∀ l ∈ ls, l.length ≤ 1048576) (hs : IsStrs w a ls) :
 Calls Tryz.prog 64 #[.slice a ls.length cap] w fun e w'=>e=.returned (.bool (keysOk ls))∧w'=w:=by
 have HE:=keysOk_even ls
 have H7:=keysOk_many ls
 have HB:=keysOk_bad ls
 have HY:=keysOk_yes ls
 obtain⟨out,hout⟩:∃ out,out=keysOk ls:=⟨_,rfl⟩
 rw[←hout] at HE H7 HB HY ⊢
 clear hout
 have HHB:Hid (∀ j (h:j<ls.length),ls[j].length≠32→out=false):=HB
 have HHY:Hid (ls.length % 2=1→ls.length≤7→(∀ l∈ls,l.length=32)→out=true):=HY
 clear HB HY
 by_cases he:ls.length % 2=0
 · have HZ:Hid (out=false):=HE he
   have he':(ls.length:Int) % 2=0:=by omega
   clear HE H7 HHB HHY hs hm
   go_enter Tryz.func64,Tryz.ntmps64
   go_wp2
   go_ret
   exact⟨by cases HZ.out;rfl,rfl⟩
 · have he2 : ((ls.length : Int) % 2 == 0) = false := by simp; omega
   by_cases h7:ls.length≤7
   · have h7' : (ls.length : Int) ≤ 7 := by omega
     obtain⟨b,off,rfl,hc⟩:∃ b off,a=some ⟨b,off,none⟩∧∀ j (h:j<ls.length),w.cell? ⟨b,off+j,none⟩=some (.string ⟨ls[j].toArray⟩):=by
      rcases hs with h | h
      · rw[h] at he;simp at he
      · exact h
     have hm':∀ j (h:j<ls.length),ls[j].length≤1048576:=fun j h=>hm _ (List.getElem_mem _)
     clear HE H7 hm
     go_enter Tryz.func64,Tryz.ntmps64
     go_wp2
     go_loop [16] (fun i=>∃ j:Nat,j≤ls.length∧i=.int .i64 (j:Int)∧Hid (∀ l∈ls.take j,l.length=32)) (fun i=>ls.length - (intOf i).toNat)
     case atStart=>exact⟨0,Nat.zero_le _,rfl,by rw[Hid];simp⟩
     case round =>
      obtain⟨j,hj,rfl,HA⟩:=hrel
      by_cases hlt:j<ls.length
      · have c1:=hc j hlt
        have m1:=hm' j hlt
        have hj0:(0:Int)≤(j:Int):=by omega
        have hj1:(j:Int)<(ls.length:Int):=by omega
        have HS:Hid (ls[j].length=32→∀ l∈ls.take (j+1),l.length=32):=fun h l hl=>by
         rw[List.take_succ_eq_append_getElem hlt,List.mem_append] at hl
         rcases hl with hl | hl
         · exact HA.out l hl
         · simp at hl;rw[hl];exact h
        have HN:Hid (ls[j].length≠32→out=false):=HHB.out j hlt
        obtain⟨x,hx⟩:∃ x,x=ls[j]:=⟨_,rfl⟩
        rw[←hx] at c1 m1 HS HN
        clear hc hm' hx HA
        by_cases hx32:x.length=32
        · have m2:(x.length:Int)=32:=by omega
          go_wp2
          go_round
          case rel=>exact⟨j+1,by omega,by go_num,HS.out hx32⟩
          case measure=>simp[intOf];omega
        · have m2:¬ (x.length:Int)=32:=by omega
          go_wp2
          go_ret
          exact⟨by cases HN.out hx32;rfl,rfl⟩
      · have hjl:j=ls.length:=by omega
        subst hjl
        have HZ:Hid (out=true):=HHY.out (by omega) h7 (by have:=HA.out;rw[List.take_length] at this;exact this)
        go_wp2
        go_ret
        exact⟨by cases HZ.out;rfl,rfl⟩
   · have HZ:Hid (out=false):=H7 (by omega)
     have h7':¬ (ls.length:Int)≤7:=by omega
     clear HE H7 HHB HHY hs hm
     go_enter Tryz.func64,Tryz.ntmps64
     go_wp2
     go_ret
     exact⟨by cases HZ.out;rfl,rfl⟩
set_option maxRecDepth 100000 in
set_option maxHeartbeats 1000000 in
theorem spec_l11Keys (a : Option Addr) (cap : Nat) (ls : List (List UInt8)) (w : World) (hl : ls.length ≤ 1048576) (hm : ∀ l ∈ ls, l.length ≤ 1048576) (hs : IsStrs w a ls) :
 Calls Tryz.prog 33 #[.slice a ls.length cap] w fun e w'=>e=.returned (.bool (keysOk ls))∧w'=w:=by
 have HE:=keysOk_even ls
 have H7:=keysOk_many ls
 have HB:=keysOk_bad ls
 have HY:=keysOk_yes ls
 obtain⟨out,hout⟩:∃ out,out=keysOk ls:=⟨_,rfl⟩
 rw[←hout] at HE H7 HB HY ⊢
 clear hout
 have HHB:Hid (∀ j (h:j<ls.length),ls[j].length≠32→out=false):=HB
 have HHY:Hid (ls.length % 2=1→ls.length≤7→(∀ l∈ls,l.length=32)→out=true):=HY
 clear HB HY
 by_cases he:ls.length % 2=0
 · have HZ:Hid (out=false):=HE he
   have he':(ls.length:Int) % 2=0:=by omega
   clear HE H7 HHB HHY hs hm
   go_enter Tryz.func33,Tryz.ntmps33
   go_wp2
   go_ret
   exact⟨by cases HZ.out;rfl,rfl⟩
 · have he2 : ((ls.length : Int) % 2 == 0) = false := by simp; omega
   by_cases h7:ls.length≤7
   · have h7' : (ls.length : Int) ≤ 7 := by omega
     obtain⟨b,off,rfl,hc⟩:∃ b off,a=some ⟨b,off,none⟩∧∀ j (h:j<ls.length),w.cell? ⟨b,off+j,none⟩=some (.string ⟨ls[j].toArray⟩):=by
      rcases hs with h | h
      · rw[h] at he;simp at he
      · exact h
     have hm':∀ j (h:j<ls.length),ls[j].length≤1048576:=fun j h=>hm _ (List.getElem_mem _)
     clear HE H7 hm
     go_enter Tryz.func33,Tryz.ntmps33
     go_wp2
     go_loop [3] (fun i=>∃ j:Nat,j≤ls.length∧i=.int .i64 (j:Int)∧Hid (∀ l∈ls.take j,l.length=32)) (fun i=>ls.length - (intOf i).toNat)
     case atStart=>exact⟨0,Nat.zero_le _,rfl,by rw[Hid];simp⟩
     case round =>
      obtain⟨j,hj,rfl,HA⟩:=hrel
      by_cases hlt:j<ls.length
      · have c1:=hc j hlt
        have m1:=hm' j hlt
        have hj0:(0:Int)≤(j:Int):=by omega
        have hj1:(j:Int)<(ls.length:Int):=by omega
        have HS:Hid (ls[j].length=32→∀ l∈ls.take (j+1),l.length=32):=fun h l hl=>by
         rw[List.take_succ_eq_append_getElem hlt,List.mem_append] at hl
         rcases hl with hl | hl
         · exact HA.out l hl
         · simp at hl;rw[hl];exact h
        have HN:Hid (ls[j].length≠32→out=false):=HHB.out j hlt
        obtain⟨x,hx⟩:∃ x,x=ls[j]:=⟨_,rfl⟩
        rw[←hx] at c1 m1 HS HN
        clear hc hm' hx HA
        by_cases hx32:x.length=32
        · have m2:(x.length:Int)=32:=by omega
          go_wp2
          go_round
          case rel=>exact⟨j+1,by omega,by go_num,HS.out hx32⟩
          case measure=>simp[intOf];omega
        · have m2:¬ (x.length:Int)=32:=by omega
          go_wp2
          go_ret
          exact⟨by cases HN.out hx32;rfl,rfl⟩
      · have hjl:j=ls.length:=by omega
        subst hjl
        have HZ:Hid (out=true):=HHY.out (by omega) h7 (by have:=HA.out;rw[List.take_length] at this;exact this)
        go_wp2
        go_ret
        exact⟨by cases HZ.out;rfl,rfl⟩
   · have HZ:Hid (out=false):=H7 (by omega)
     have h7':¬ (ls.length:Int)≤7:=by omega
     clear HE H7 HHB HHY hs hm
     go_enter Tryz.func33,Tryz.ntmps33
     go_wp2
     go_ret
     exact⟨by cases HZ.out;rfl,rfl⟩
theorem cli_cells {w:World} {b:Nat} {u v x:Value} {t:TypeId} (h:w.heap[b]? = some (.cells #[u,v,x] t (0,0))) :
 w.cell? ⟨b,0,none⟩=some u∧w.cell? ⟨b,1,none⟩=some v∧w.cell? ⟨b,2,none⟩=some x∧∀ j,w.frozen? ⟨b,j,none⟩=false:=by
 refine⟨?_,?_,?_,fun j=>frozen_of_row w b j _ t h⟩ <;> simp only[World.cell?,h] <;> rfl
theorem cli_set {w:World} {b j:Nat} {u v x y:Value} {t:TypeId} (h:w.heap[b]? = some (.cells #[u,v,x] t (0,0))):(w.setCell ⟨b,j,none⟩ y).heap[b]? = some (.cells (#[u,v,x].setIfInBounds j y) t (0,0)):=by
 have hlt:=lt_of_block h
 have h':w.heap[b]=.cells #[u,v,x] t (0,0):=by simpa [Array.getElem?_eq_getElem hlt] using h
 show (w.heap.modify b _)[b]? = _
 rw[Array.getElem?_eq_getElem (by simpa using hlt),Array.getElem_modify_self,h']
 rfl
def numIn (s a b:Int):Bool:=decide (a≤s) && decide (s≤b)
def clientOk (ls:List (List UInt8)) (s n:Int):Bool:=keysOk ls && (numIn s 0 1000000000000 && numIn n 1 1000000000000)
theorem numIn_yes (s a b:Int) (h1:a≤s) (h2:s≤b):numIn s a b=true:=by simp[numIn,h1,h2]
theorem numIn_low (s a b:Int) (h1:¬ a≤s):numIn s a b=false:=by simp[numIn,h1]
theorem numIn_high (s a b:Int) (h1:¬ s≤b):numIn s a b=false:=by simp[numIn,h1]
set_option maxRecDepth 100000 in
theorem l1In_is (n a b:Int) (w:World) :
 Calls Tryz.prog 34 #[.int .i64 n,.int .i64 a,.int .i64 b] w fun e w'=>e=.returned (.bool (numIn n a b))∧w'=w:=by
 by_cases h1:a≤n
 · by_cases h2:n≤b
   · have HZ:Hid (numIn n a b=true):=numIn_yes n a b h1 h2
     go_enter Tryz.func34,Tryz.ntmps34
     go_wp2
     go_ret
     exact⟨by rw[HZ.out];rfl,rfl⟩
   · have HZ:Hid (numIn n a b=false):=numIn_high n a b h2
     go_enter Tryz.func34,Tryz.ntmps34
     go_wp2
     go_ret
     exact⟨by rw[HZ.out];rfl,rfl⟩
 · have HZ:Hid (numIn n a b=false):=numIn_low n a b h1
   go_enter Tryz.func34,Tryz.ntmps34
   go_wp2
   go_ret
   exact⟨by rw[HZ.out];rfl,rfl⟩
set_option maxRecDepth 100000 in
set_option maxHeartbeats 1000000 in
theorem spec_clientOk (a:Option Addr) (cap:Nat) (ls:List (List UInt8)) (s n:Int) (w:World) (hl:ls.length≤1048576) (hm:∀ l∈ls,l.length≤1048576) (hs:IsStrs w a ls) :
 Calls Tryz.prog 20 #[.agg #[.slice a ls.length cap,.int .i64 s,.int .i64 n]] w fun e w'=>e=.returned (.bool (clientOk ls s n))∧Below w.heap.size w w':=by
 have B0:Below w.heap.size w (w.alloc (.cells #[.slice a ls.length cap,.int .i64 s,.int .i64 n] 31)):=(Below.refl _ _).alloc (Nat.le_refl _) _
 have K1:=spec_l11Keys a cap ls (w.alloc (.cells #[.slice a ls.length cap,.int .i64 s,.int .i64 n] 31)) hl hm (strs_later hs B0)
 have K2:=fun W=>l1In_is s 0 1000000000000 W
 have K3:=fun W=>l1In_is n 1 1000000000000 W
 have HD:Hid (clientOk ls s n=(keysOk ls && (numIn s 0 1000000000000 && numIn n 1 1000000000000))):=rfl
 have q0:=cli_cells (heap_alloc_new w (.cells #[.slice a ls.length cap,.int .i64 s,.int .i64 n] 31))
 obtain⟨c0,c1,c2,_⟩:=q0
 obtain⟨kb,hkb⟩:∃ kb,kb=keysOk ls:=⟨_,rfl⟩
 obtain⟨sb,hsb⟩:∃ sb,sb=numIn s 0 1000000000000:=⟨_,rfl⟩
 obtain⟨nb,hnb⟩:∃ nb,nb=numIn n 1 1000000000000:=⟨_,rfl⟩
 rw[←hkb] at K1 HD
 rw[←hsb] at K2 HD
 rw[←hnb] at K3 HD
 clear hkb hsb hnb hs hm
 go_enter Tryz.func20,Tryz.ntmps20
 go_wp2_with fail
 refine K1.mono ?_
 rintro e w1 ⟨rfl,rfl⟩
 cases kb with
 | false =>
   go_wp2
   go_ret
   exact⟨by rw[HD.out];rfl,B0⟩
 | true =>
   go_wp2_with fail
   refine (K2 _).mono ?_
   rintro e w1 ⟨rfl,rfl⟩
   cases sb with
   | false =>
     go_wp2
     go_ret
     exact⟨by rw[HD.out];rfl,B0⟩
   | true =>
     go_wp2_with fail
     refine (K3 _).mono ?_
     rintro e w1 ⟨rfl,rfl⟩
     go_wp2
     go_ret
     exact⟨by rw[HD.out];rfl,B0⟩
set_option maxRecDepth 100000 in
set_option maxHeartbeats 1000000 in
theorem impl_clientOk (a:Option Addr) (cap:Nat) (ls:List (List UInt8)) (s n:Int) (w:World) (hl:ls.length≤1048576) (hm:∀ l∈ls,l.length≤1048576) (hs:IsStrs w a ls) :
 Calls Tryz.prog 43 #[.agg #[.slice a ls.length cap,.int .i64 s,.int .i64 n]] w fun e w'=>e=.returned (.bool (clientOk ls s n))∧Below w.heap.size w w':=by
 have B0:Below w.heap.size w (w.alloc (.cells #[.slice a ls.length cap,.int .i64 s,.int .i64 n] 31)):=(Below.refl _ _).alloc (Nat.le_refl _) _
 have K1:=impl_areKeys a cap ls (w.alloc (.cells #[.slice a ls.length cap,.int .i64 s,.int .i64 n] 31)) hl hm (strs_later hs B0)
 have HD:Hid (clientOk ls s n=(keysOk ls && (numIn s 0 1000000000000 && numIn n 1 1000000000000))):=rfl
 obtain⟨c0,c1,c2,_⟩:=cli_cells (heap_alloc_new w (.cells #[.slice a ls.length cap,.int .i64 s,.int .i64 n] 31))
 obtain⟨kb,hkb⟩:∃ kb,kb=keysOk ls:=⟨_,rfl⟩
 rw[←hkb] at K1 HD
 clear hkb hs hm
 go_enter Tryz.func43,Tryz.ntmps43
 go_wp2_with fail
 refine K1.mono ?_
 rintro e w1 ⟨rfl,rfl⟩
 cases kb with
 | false =>
   go_wp2
   go_ret
   exact⟨by rw[HD.out];rfl,B0⟩
 | true =>
   by_cases s1:0≤s
   · by_cases s2:s≤1000000000000
     · by_cases n1:1≤n
       · by_cases n2:n≤1000000000000
         · have HZ:Hid (clientOk ls s n=true):=by rw[Hid,HD.out,numIn_yes _ _ _ s1 s2,numIn_yes _ _ _ n1 n2];rfl
           go_wp2
           go_ret
           exact⟨by rw[HZ.out];rfl,B0⟩
         · have HZ:Hid (clientOk ls s n=false):=by rw[Hid,HD.out,numIn_high _ _ _ n2,Bool.and_false];rfl
           have HQ:Hid (decide (n≤1000000000000)=false):=decide_eq_false n2
           go_wp2
           go_ret
           exact⟨by rw[HZ.out];show Ending.returned (.bool (decide (n≤1000000000000)))=_;rw[HQ.out],B0⟩
       · have HZ:Hid (clientOk ls s n=false):=by rw[Hid,HD.out,numIn_low _ _ _ n1,Bool.and_false];rfl
         go_wp2
         go_ret
         exact⟨by rw[HZ.out];rfl,B0⟩
     · have HZ:Hid (clientOk ls s n=false):=by rw[Hid,HD.out,numIn_high _ _ _ s2];rfl
       go_wp2
       go_ret
       exact⟨by rw[HZ.out];rfl,B0⟩
   · have HZ:Hid (clientOk ls s n=false):=by rw[Hid,HD.out,numIn_low _ _ _ s1];rfl
     go_wp2
     go_ret
     exact⟨by rw[HZ.out];rfl,B0⟩
set_option maxRecDepth 100000 in
set_option maxHeartbeats 1000000 in
theorem toClient_any (a:Option Addr) (cap:Nat) (ls:List (List UInt8)) (s n:Int) (w:World) (hl:ls.length≤1048576) (hs:IsStrs w a ls) :
 Calls Tryz.prog 8 #[.agg #[.slice a ls.length cap,.int .i64 s,.int .i64 n]] w fun e w'=>∃ g:Nat,e=.returned (.agg #[.slice (some ⟨g,0,none⟩) ls.length ls.length,.int .i64 s,.int .i64 n])∧w'.ownsRow w.heap.size 9 1 (.slice (some ⟨g,0,none⟩) ls.length ls.length) ls.length (scells ls)∧Below w.heap.size w w':=by
 obtain⟨wa,hwa⟩:∃ wa,wa=((w.alloc (.cells #[.slice a ls.length cap,.int .i64 s,.int .i64 n] 24)).alloc (.cells #[.slice none 0 0,.int .i64 0,.int .i64 0] 31)).alloc (.cells #[.slice none 0 0,.int .i64 0,.int .i64 0] 31):=⟨_,rfl⟩
 have Ba:Below w.heap.size w wa:=by rw[hwa];exact (((Below.refl _ _).alloc (Nat.le_refl _) _).alloc (by simp) _).alloc (by simp;omega) _
 have sa:wa.heap.size=w.heap.size+3:=by rw[hwa];simp
 have a0:wa.heap[w.heap.size]? = some (.cells #[.slice a ls.length cap,.int .i64 s,.int .i64 n] 24 (0,0)):=by rw[hwa,Below.heap_alloc _ _ _ (by simp;omega),Below.heap_alloc _ _ _ (by simp)];exact heap_alloc_new w _
 have a1:wa.heap[w.heap.size+1]? = some (.cells #[.slice none 0 0,.int .i64 0,.int .i64 0] 31 (0,0)):=by
  rw[hwa,Below.heap_alloc _ _ _ (by simp)]
  have:=heap_alloc_new (w.alloc (.cells #[.slice a ls.length cap,.int .i64 s,.int .i64 n] 24)) (.cells #[.slice none 0 0,.int .i64 0,.int .i64 0] 31)
  simpa using this
 have a2:wa.heap[w.heap.size+2]? = some (.cells #[.slice none 0 0,.int .i64 0,.int .i64 0] 31 (0,0)):=by
  rw[hwa]
  have:=heap_alloc_new ((w.alloc (.cells #[.slice a ls.length cap,.int .i64 s,.int .i64 n] 24)).alloc (.cells #[.slice none 0 0,.int .i64 0,.int .i64 0] 31)) (.cells #[.slice none 0 0,.int .i64 0,.int .i64 0] 31)
  rw[show ((w.alloc (.cells #[.slice a ls.length cap,.int .i64 s,.int .i64 n] 24)).alloc (.cells #[.slice none 0 0,.int .i64 0,.int .i64 0] 31)).heap.size=w.heap.size+2 by simp] at this
  exact this
 have K1:=toS_any a cap ls wa hl (strs_later hs Ba)
 have HWA:Hid (wa=((w.alloc (.cells #[.slice a ls.length cap,.int .i64 s,.int .i64 n] 24)).alloc (.cells #[.slice none 0 0,.int .i64 0,.int .i64 0] 31)).alloc (.cells #[.slice none 0 0,.int .i64 0,.int .i64 0] 31)):=hwa
 clear hs hwa
 go_enter Tryz.func8,Tryz.ntmps8
 go_wp2_with fail
 rw[←HWA.out]
 refine K1.mono ?_
 rintro e w1 ⟨rfl,o1,b1⟩
 rw[sa] at o1 ⊢
 have B1:=Ba.trans (b1.mono (by omega))
 have e0:=(b1.block (w.heap.size) (by omega)).trans a0
 have e1:=(b1.block (w.heap.size+1) (by omega)).trans a1
 have e2:=(b1.block (w.heap.size+2) (by omega)).trans a2
 have s1:w.heap.size+3<w1.heap.size:=own_lt o1
 have O1:=hidOwn o1
 obtain⟨x0,x1,x2,xf⟩:=cli_cells e0
 obtain⟨p0,p1,p2,pf⟩:=cli_cells e2
 obtain⟨q0,q1,q2,qf⟩:=cli_cells e1
 have pf0:=pf 0
 have pf1:=pf 1
 have pf2:=pf 2
 have qf0:=qf 0
 have qf1:=qf 1
 have qf2:=qf 2
 clear K1 a0 a1 a2 b1 Ba o1 sa xf pf qf HWA
 go_wp2
 have z1:=cli_set (j:=0) (y:=(.slice (some ⟨w.heap.size+3,0,none⟩) ls.length ls.length)) e2
 have y0:((w1.setCell ⟨w.heap.size+1+1,0,none⟩ (.slice (some ⟨w.heap.size+3,0,none⟩) ls.length ls.length)).setCell ⟨w.heap.size+1+1,1,none⟩ (.int .i64 s)).heap[w.heap.size+1]? = _:=(Below.heap_setCell _ _ _ _ (by simp)).trans ((Below.heap_setCell _ _ _ _ (by simp)).trans e1)
 have y1:(((w1.setCell ⟨w.heap.size+1+1,0,none⟩ (.slice (some ⟨w.heap.size+3,0,none⟩) ls.length ls.length)).setCell ⟨w.heap.size+1+1,1,none⟩ (.int .i64 s)).setCell ⟨w.heap.size+1+1,2,none⟩ (.int .i64 n)).heap[w.heap.size+1]? = _:=(Below.heap_setCell _ _ _ _ (by simp)).trans y0
 have y2:=cli_set (j:=0) (y:=(.slice (some ⟨w.heap.size+3,0,none⟩) ls.length ls.length)) y1
 have y3:=cli_set (j:=1) (y:=.int .i64 s) y2
 have y4:=cli_set (j:=2) (y:=.int .i64 n) y3
 have hO:=ownsRow_setCell_other (ownsRow_setCell_other (ownsRow_setCell_other (ownsRow_setCell_other (ownsRow_setCell_other (ownsRow_setCell_other (a:=⟨w.heap.size+1+1,0,none⟩) O1.out (by simp[Value.ownBlock]) (.slice (some ⟨w.heap.size+3,0,none⟩) ls.length ls.length)) (a:=⟨w.heap.size+1+1,1,none⟩) (by simp[Value.ownBlock]) (.int .i64 s)) (a:=⟨w.heap.size+1+1,2,none⟩) (by simp[Value.ownBlock]) (.int .i64 n)) (a:=⟨w.heap.size+1,0,none⟩) (by simp[Value.ownBlock]) (.slice (some ⟨w.heap.size+3,0,none⟩) ls.length ls.length)) (a:=⟨w.heap.size+1,1,none⟩) (by simp[Value.ownBlock]) (.int .i64 s)) (a:=⟨w.heap.size+1,2,none⟩) (by simp[Value.ownBlock]) (.int .i64 n)
 exact bodyPost_ret (v:=.agg #[(.slice (some ⟨w.heap.size+3,0,none⟩) ls.length ls.length),.int .i64 s,.int .i64 n]) (results_cell_row rfl _ _ (w.heap.size+1) 31 _ (0,0) _ rfl y4 Tryz.underlying31 rfl (by kernel_rfl)) rfl ⟨w.heap.size+3,rfl,hO.mono (by omega),(((((B1.setCell (by simp;omega) _).setCell (by simp;omega) _).setCell (by simp;omega) _).setCell (by simp) _).setCell (by simp) _).setCell (by simp) _⟩
open Go.ChangeShapes Go.WideShapes Go.ChangeAt Go.RowKit
theorem cstrs_of {H:Type} {enc:TypeId × Value→H} {W:World} {fuel:Nat} {u:Value} {y:DataW H × List MemPlace} (hf:DataW.trod enc Tryz.prog W 0 (fun _=>true) true fuel 22 [u]=some y) :
 ∃ (a:Option Addr) (ls:List (List UInt8)) (cap:Nat),u=.slice a ls.length cap∧(∀ l∈ls,l.length≤9223372036854775807)∧IsStrs W a ls∧ls.length≤9223372036854775807:=by
 rcases open_strings Tryz.underlying22 Tryz.underlying9 (by kernel_rfl) hf with ⟨hcs,_⟩ | ⟨x,l,c,ss,hcs,_,hl,hm,hz,_,hcell,hwz⟩
 · simp at hcs
   exact⟨none,[],0,hcs,by simp,.inl rfl,by simp⟩
 · simp at hcs
   unfold maxLen at hm
   have hz':ss.length=c:=by simpa using hz
   refine⟨some x,(ss.take l).map (·.data.toList),c,by rw[hcs];simp;omega,?_,?_,by simp;omega⟩
   · intro l hlm
     simp only[List.mem_map] at hlm
     obtain⟨s,hs1,rfl⟩:=hlm
     have:=hwz s (List.mem_of_mem_take hs1)
     unfold maxLen at this
     rw[Array.length_toList];exact this
   · by_cases h0:l=0
     · exact .inl (by simp[h0])
     · obtain⟨b,off,spot⟩:=x
       have hc:=hcell 0 (by omega)
       have hspot:spot=none:=by simpa [Addr.add] using World.cell?_spot hc
       subst hspot
       refine .inr ⟨b,off,rfl,fun j hj=>?_⟩
       simp at hj
       have hjs:j<ss.length:=by omega
       have hcj:=hcell j hjs
       have e1:(⟨b,off,none⟩:Addr).add j=⟨b,off+j,none⟩:=by simp[Addr.add]
       rw[e1,List.getD_eq_getElem?_getD,List.getElem?_eq_getElem hjs,Option.getD_some] at hcj
       rw[hcj]
       simp only[List.getElem_map,List.getElem_take]
set_option maxRecDepth 100000 in
theorem client_of {H:Type} {enc:TypeId × Value→H} {W:World} {r:Reach} {b0:Nat} {v:Value} {d:DataW H} {p:List MemPlace} (hv:Value.okWide Tryz.prog W r b0 24 v) (h:DataW.Trod enc Tryz.prog W 0 (fun _=>true) true 24 v d p) :
 ∃ (a:Option Addr) (cap:Nat) (ls:List (List UInt8)) (s n:Int),v=.agg #[.slice a ls.length cap,.int .i64 s,.int .i64 n]∧IsStrs W a ls∧ls.length≤9223372036854775807∧(∀ l∈ls,l.length≤9223372036854775807):=by
 obtain⟨u0,u1,u2,y0,y1,y2,n,rfl,_,_,t0,t1,t2⟩:=Go.Joins.open_agg3 Tryz.underlying24 (by kernel_rfl) (by kernel_rfl) hv h
 obtain⟨a,ls,cap,rfl,m1,s1,l1⟩:=cstrs_of t0
 obtain⟨c,hc,_,_⟩:=DataW.trod_int Tryz.underlying2 t1
 obtain⟨m,hm,_,_⟩:=DataW.trod_int Tryz.underlying2 t2
 simp at hc hm
 subst hc hm
 exact⟨a,cap,ls,c,m,rfl,s1,l1,m1⟩
theorem scells_oneT (qs:List (List UInt8)):∀ u∈scells qs,u.oneCell'=true:=by
 intro u hu
 simp only[scells,List.mem_map] at hu
 obtain⟨l,_,rfl⟩:=hu
 rfl
theorem flat_strs {w:World} {a:Option Addr} {ad:Addr} {qs:List (List UInt8)} (h:IsStrs w a qs) (ha:a=some ad):∀ j u,(scells qs)[j]? = some u→w.cell? (ad.add j)=some u:=by
 intro j u hu
 rcases h with rfl | ⟨b,off,h1,h2⟩
 · simp[scells] at hu
 · rw[h1] at ha
   cases ha
   have hj:j<qs.length:=by
    have:=(List.getElem?_eq_some_iff.1 hu).1
    rwa [scells_length] at this
   rw[scells_at qs j hj] at hu
   cases hu
   have h3:=h2 j hj
   by_cases e:j=0
   · subst e;simpa [Addr.add] using h3
   · simpa [Addr.add,e] using h3
theorem own_sliceT {w:World} {B e n:Nat} {v:Value} {xs:List Value} (h:w.ownsRow B e 1 v n xs):∃ a m c,v=.slice a m c:=by
 rcases own_cases h with ⟨h1,_,_⟩ | ⟨g,cap,h1,_⟩
 · exact⟨_,_,_,h1⟩
 · exact⟨_,_,_,h1⟩
theorem wpList_append_strs {P:Program} {w:World} {ops:Array Oper} {rest:List Oper} {o:Oper} {a:Act} {Q:Exit→Act→World→Prop} (hgd:o.guard=none) (s x:Operand) (t:TypeId)
 (ho:o.op=.call { callee:=.builtin .append,args:=#[s,x],argTypes:=#[t,t] })
 (base:Nat) (e:TypeId) (i:TypeInfo) (z:Value) (bytes:Nat) (ht:P.underlying t=some (.slice e)) (hi:P.info? e=some i) (hz:i.zero=some z)
 (hsize:i.size=1) (hby:i.bytes=bytes) (hzs:z.cells.size=1)
 (v:Value) (n:Nat) (xs:List Value) (hs:a.eval s=v) (hown:w.ownsRow base e 1 v n xs)
 (a2:Option Addr) (qs:List (List UInt8)) (m c:Nat) (hm:m=qs.length) (hx:a.eval x=.slice a2 m c) (hc:a2=none→c=0) (hp:IsStrs w a2 qs)
 (h63:n+m≤maxLen) (hbytes:(n+m)*bytes≤140737488355328) (hbase:base≤w.heap.size)
 (h:∀ v' w',w'.ownsRow base e 1 v' (n+m) (xs ++ scells qs)→w.grownBy w' v.ownBlock→wpList P ops Q rest (a.put o.dst v') w'):wpList P ops Q (o :: rest) a w:=by
 subst hm
 cases a2 with
 | none =>
   have hq:qs=[]:=by
    rcases hp with h | ⟨b,off,h,_⟩
    · exact h
    · cases h
   subst hq
   obtain rfl:=hc rfl
   refine wpList_append_own_none hgd s x t ho base e i 1 ht hi v n xs hs hown hx (h v w ?_ (World.grownBy.refl _ _))
   simpa [scells] using hown
 | some ad=>exact wpList_append_own w hgd s x t ho base e i z 1 bytes ht hi hz hsize hby hzs (by decide) v n xs hs hown ad qs.length c (scells qs) hx (by rw[scells_length];omega) (flat_strs hp rfl) (scells_oneT qs) h63 hbytes hbase (fun v' w' h1 h2 _=>h v' w' h1 h2)
theorem info9n:(Tryz.prog.info? 9).map (fun i=>(i.zero,i.size,i.bytes))=some (some (.string ⟨#[]⟩),1,16):=by kernel_rfl
set_option maxRecDepth 100000 in
set_option maxHeartbeats 1000000 in
theorem spec_l12Copy (a:Option Addr) (cap:Nat) (ks:List (List UInt8)) (sn nx:Int) (w:World) (hl:ks.length≤1048576) (hca:a=none→cap=0) (hs:IsStrs w a ks) :
 Calls Tryz.prog 21 #[.agg #[.slice a ks.length cap,.int .i64 sn,.int .i64 nx]] w fun e w'=>∃ (a':Option Addr) (c':Nat),e=.returned (.agg #[.slice a' ks.length c',.int .i64 sn,.int .i64 nx])∧w'.ownsRow w.heap.size 9 1 (.slice a' ks.length c') ks.length (scells ks)∧Below w.heap.size w w':=by
 obtain⟨i0,hi0,hz0,hz1,hz2⟩:=info_parts info9n
 have B0:Below w.heap.size w (((w.alloc (.cells #[.slice a ks.length cap,.int .i64 sn,.int .i64 nx] 31)).alloc (.cells #[.slice none 0 0,.int .i64 0,.int .i64 0] 31)).alloc (.cells #[] 9)):=(((Below.refl _ _).alloc (Nat.le_refl _) _).alloc (by simp) _).alloc (by simp;omega) _
 have x0:(((w.alloc (.cells #[.slice a ks.length cap,.int .i64 sn,.int .i64 nx] 31)).alloc (.cells #[.slice none 0 0,.int .i64 0,.int .i64 0] 31)).alloc (.cells #[] 9)).heap[w.heap.size]? = some (.cells #[.slice a ks.length cap,.int .i64 sn,.int .i64 nx] 31 (0,0)):=(Below.heap_alloc _ _ _ (by simp;omega)).trans ((Below.heap_alloc _ _ _ (by simp)).trans (heap_alloc_new w _))
 have y0:(((w.alloc (.cells #[.slice a ks.length cap,.int .i64 sn,.int .i64 nx] 31)).alloc (.cells #[.slice none 0 0,.int .i64 0,.int .i64 0] 31)).alloc (.cells #[] 9)).heap[w.heap.size+1]? = some (.cells #[.slice none 0 0,.int .i64 0,.int .i64 0] 31 (0,0)):=(Below.heap_alloc _ _ _ (by simp)).trans (by
  have:=heap_alloc_new (w.alloc (.cells #[.slice a ks.length cap,.int .i64 sn,.int .i64 nx] 31)) (.cells #[.slice none 0 0,.int .i64 0,.int .i64 0] 31)
  simpa using this)
 have o0:(((w.alloc (.cells #[.slice a ks.length cap,.int .i64 sn,.int .i64 nx] 31)).alloc (.cells #[.slice none 0 0,.int .i64 0,.int .i64 0] 31)).alloc (.cells #[] 9)).ownsRow (w.heap.size+2) 9 1 (.slice (some ⟨w.heap.size+1+1,0,none⟩) 0 0) 0 []:=by
  have:=World.ownsRow_lit (e:=9) (size:=1) ((w.alloc (.cells #[.slice a ks.length cap,.int .i64 sn,.int .i64 nx] 31)).alloc (.cells #[.slice none 0 0,.int .i64 0,.int .i64 0] 31)) #[] 0 (base:=w.heap.size+2) (by simp) (Nat.zero_le _) rfl
  simpa using this
 have HB0:Hid (Below w.heap.size w (((w.alloc (.cells #[.slice a ks.length cap,.int .i64 sn,.int .i64 nx] 31)).alloc (.cells #[.slice none 0 0,.int .i64 0,.int .i64 0] 31)).alloc (.cells #[] 9))):=B0
 have HX0:Hid ((((w.alloc (.cells #[.slice a ks.length cap,.int .i64 sn,.int .i64 nx] 31)).alloc (.cells #[.slice none 0 0,.int .i64 0,.int .i64 0] 31)).alloc (.cells #[] 9)).heap[w.heap.size]? = some (.cells #[.slice a ks.length cap,.int .i64 sn,.int .i64 nx] 31 (0,0))):=x0
 have HY0:Hid ((((w.alloc (.cells #[.slice a ks.length cap,.int .i64 sn,.int .i64 nx] 31)).alloc (.cells #[.slice none 0 0,.int .i64 0,.int .i64 0] 31)).alloc (.cells #[] 9)).heap[w.heap.size+1]? = some (.cells #[.slice none 0 0,.int .i64 0,.int .i64 0] 31 (0,0))):=y0
 have HO0:=hidOwn o0
 have HI0:Hid (IsStrs (((w.alloc (.cells #[.slice a ks.length cap,.int .i64 sn,.int .i64 nx] 31)).alloc (.cells #[.slice none 0 0,.int .i64 0,.int .i64 0] 31)).alloc (.cells #[] 9)) a ks):=strs_later hs B0
 obtain⟨p0,p1,p2,_⟩:=bat_cells x0
 clear B0 x0 y0 o0 hs
 go_enter Tryz.func21,Tryz.ntmps21
 go_wp2_with (first
  | (at_builtin; refine wpList_append_strs rfl _ _ 22 rfl (w.heap.size + 2) 9 i0 (.string ⟨#[]⟩) 16 Tryz.underlying22 hi0 hz0 hz1 hz2 rfl (.slice (some ⟨w.heap.size + 1 + 1, 0, none⟩) 0 0) 0 [] rfl HO0.out a ks ks.length cap rfl rfl hca HI0.out (by unfold maxLen; omega) (by omega) (by simp) ?_; intro v3 w3 o3 g3; obtain ⟨a3, m3, c3, rfl⟩ := own_sliceT o3
     have O3:Hid (w3.ownsRow (w.heap.size+2) 9 1 (.slice a3 m3 c3) ks.length (scells ks)):=(by rw[Hid];simpa using o3)
     obtain⟨hm3,_,_⟩:=strs_own O3.out
     subst hm3
     have B3:Hid (Below w.heap.size w w3):=HB0.out.grown g3 HB0.out.size (fun q hq=>(by have:=(HO0.out.lt q hq).1;omega))
     have X3:w3.heap[w.heap.size]? = some (.cells #[.slice a ks.length cap,.int .i64 sn,.int .i64 nx] 31 (0,0)):=(g3.block w.heap.size (by simp;omega) (by simp[Value.ownBlock];omega)).trans HX0.out
     have Y3:w3.heap[w.heap.size+1]? = some (.cells #[.slice none 0 0,.int .i64 0,.int .i64 0] 31 (0,0)):=(g3.block (w.heap.size+1) (by simp) (by simp[Value.ownBlock])).trans HY0.out
     have X4:=bat_set (j:=0) (y:=.slice a3 ks.length c3) X3
     have Y4:(w3.setCell ⟨w.heap.size,0,none⟩ (.slice a3 ks.length c3)).heap[w.heap.size+1]? = some (.cells #[.slice none 0 0,.int .i64 0,.int .i64 0] 31 (0,0)):=(Below.heap_setCell _ _ _ _ (by simp)).trans Y3
     have HX4:Hid _:=X4
     have HY4:Hid ((w3.setCell ⟨w.heap.size,0,none⟩ (.slice a3 ks.length c3)).heap[w.heap.size+1]? = some (.cells #[.slice none 0 0,.int .i64 0,.int .i64 0] 31 (0,0))):=Y4
     obtain⟨u0,u1,u2,uf⟩:=bat_cells X3
     have uf0:=uf 0
     obtain⟨z0,z1,z2,zf⟩:=bat_cells Y4
     have zf0:=zf 0
     have zf1:=zf 1
     have zf2:=zf 2
     obtain⟨r0,r1,r2,_⟩:=bat_cells X4
     clear o3 g3 X3 Y3 X4 Y4 uf zf))
 have F:Hid (∀ x y z,((((w3.setCell ⟨w.heap.size,0,none⟩ (.slice a3 ks.length c3)).setCell ⟨w.heap.size+1,0,none⟩ x).setCell ⟨w.heap.size+1,1,none⟩ y).setCell ⟨w.heap.size+1,2,none⟩ z).heap[w.heap.size+1]? = some (.cells #[x,y,z] 31 (0,0))):=fun x y z=>bat_set (j:=2) (bat_set (j:=1) (bat_set (j:=0) HY4.out))
 exact bodyPost_ret (v:=.agg #[.slice a3 ks.length c3,.int .i64 sn,.int .i64 nx]) (results_cell_row rfl _ _ (w.heap.size+1) 31 _ (0,0) _ rfl (F.out _ _ _) Tryz.underlying31 rfl (by kernel_rfl)) rfl ⟨a3,c3,rfl,ownsRow_setCell_other (ownsRow_setCell_other (ownsRow_setCell_other (ownsRow_setCell_other (O3.out.mono (by omega)) (fun e=>by have:=(O3.out.lt _ e).1;dsimp only at this;omega) _) (fun e=>by have:=(O3.out.lt _ e).1;dsimp only at this;omega) _) (fun e=>by have:=(O3.out.lt _ e).1;dsimp only at this;omega) _) (fun e=>by have:=(O3.out.lt _ e).1;dsimp only at this;omega) _,(((B3.out.setCell (Nat.le_refl _) _).setCell (by simp) _).setCell (by simp) _).setCell (by simp) _⟩
open Go.RowKit Go.Extern.Stop Go.Stop Go.Extern
theorem errType (v:Value) (w:World):(Extern.ReflectliteType.typeOf #[.iface 203 v]).run Tryz.prog w=.ok (.iface 132 (.agg #[.pointer (some ⟨7,203,none⟩)])) w:=by kernel_rfl
def cmpM : Array Value → Sem Value := Extern.ReflectliteType.method fun t => do Go.Extern.Rtype.noPackHeld "Comparable" t; pure (.bool (← typeInfo t).comparable)
theorem errComp (w:World):(cmpM #[.agg #[.pointer (some ⟨7,203,none⟩)]]).run Tryz.prog w=.ok (.bool true) w:=by kernel_rfl
theorem errMeth (v : Value) (w : World) : (Go.method 334 132 v "Comparable").run Tryz.prog w = .ok (180, v) w := by kernel_rfl
theorem errInfo:(Tryz.prog.info? 203).map (·.comparable)=some true:=by kernel_rfl
theorem errSize:(Tryz.prog.info? 222).map (·.size)=some 1:=by kernel_rfl
theorem errNoIs (v:Value) (xT:TypeId) (w:World):(Instr.typeAssert (.iface 203 v) xT 163 true).run Tryz.prog w=.ok (.tuple #[.nilIface,.bool false]) w:=run_typeAssert_lacksB Tryz.underlying163 (by kernel_rfl) (by kernel_rfl) v xT w
theorem errNoUn (v:Value) (xT:TypeId) (w:World):(Instr.typeAssert (.iface 203 v) xT 139 true).run Tryz.prog w=.ok (.tuple #[.nilIface,.bool false]) w:=run_typeAssert_lacksB Tryz.underlying139 (by kernel_rfl) (by kernel_rfl) v xT w
theorem errNoUns (v:Value) (xT:TypeId) (w:World):(Instr.typeAssert (.iface 203 v) xT 141 true).run Tryz.prog w=.ok (.tuple #[.nilIface,.bool false]) w:=run_typeAssert_lacksB Tryz.underlying141 (by kernel_rfl) (by kernel_rfl) v xT w
set_option maxRecDepth 100000 in
set_option maxHeartbeats 1000000 in
theorem is_nilE (b:Addr) (w:World):Calls Tryz.prog 46 #[.nilIface,.iface 203 (.pointer (some b))] w fun e w'=>e=.returned (.bool false)∧w'=w:=by
 have hn:=run_eql_iface_nil_left (P:=Tryz.prog) w 203 (.pointer (some b)) Tryz.underlying54
 go_enter Tryz.func46,Tryz.ntmps46
 go_wp2
 go_ret
 exact⟨rfl,rfl⟩
set_option maxRecDepth 100000 in
set_option maxHeartbeats 1000000 in
theorem is_sameE (a:Addr) (w:World):Calls Tryz.prog 46 #[.iface 203 (.pointer (some a)),.iface 203 (.pointer (some a))] w fun e w'=>e=.returned (.bool true)∧w'=w:=by
 obtain⟨i,hi,hcmp⟩:=Option.map_eq_some_iff.1 errInfo
 obtain⟨j,hj,hjs⟩:=Option.map_eq_some_iff.1 errSize
 have e1:=@run_callFunc_extern Tryz.prog 73 _ Extern.ReflectliteType.typeOf Tryz.func73 (by kernel_rfl) (by kernel_rfl) (by kernel_rfl) (by kernel_rfl)
 have e2:=@run_callFunc_extern Tryz.prog 180 _ cmpM Tryz.func180 (by kernel_rfl) (by kernel_rfl) (by kernel_rfl) (by kernel_rfl)
 have e3:=errType
 have e4:=errComp
 have e5:=errMeth
 have heq:=run_eql_iface_ptr_same (P:=Tryz.prog) w a Tryz.underlying54 Tryz.underlying203 hi hcmp hj
 go_enter Tryz.func46,Tryz.ntmps46
 go_wp2
 refine wp_loop_rounds 1 ?_
 rw[rounds_succ]
 go_wp2
 go_ret
 exact⟨rfl,rfl⟩
set_option maxRecDepth 100000 in
set_option maxHeartbeats 1000000 in
theorem is_otherE (a b:Addr) (ca cb:Array Value) (ta tb:TypeId) (w:World) (hne:a≠b) (ha:w.heap[a.block]? = some (.cells ca ta (0,0))) (hb:w.heap[b.block]? = some (.cells cb tb (0,0))):Calls Tryz.prog 46 #[.iface 203 (.pointer (some a)),.iface 203 (.pointer (some b))] w fun e w'=>e=.returned (.bool false)∧w'=w:=by
 obtain⟨i,hi,hcmp⟩:=Option.map_eq_some_iff.1 errInfo
 obtain⟨j,hj,hjs⟩:=Option.map_eq_some_iff.1 errSize
 have e1:=@run_callFunc_extern Tryz.prog 73 _ Extern.ReflectliteType.typeOf Tryz.func73 (by kernel_rfl) (by kernel_rfl) (by kernel_rfl) (by kernel_rfl)
 have e2:=@run_callFunc_extern Tryz.prog 180 _ cmpM Tryz.func180 (by kernel_rfl) (by kernel_rfl) (by kernel_rfl) (by kernel_rfl)
 have e3:=errType
 have e4:=errComp
 have e5:=errMeth
 have e6:=errNoIs
 have e7:=errNoUn
 have e8:=errNoUns
 have heq:=run_eql_iface_ptr_other (P:=Tryz.prog) w Tryz.underlying54 Tryz.underlying203 hi hcmp hj (by rw[hjs];decide) hne ha hb
 go_enter Tryz.func46,Tryz.ntmps46
 go_wp2
 refine wp_loop_rounds 1 ?_
 rw[rounds_succ]
 go_wp2
 go_ret
 exact⟨rfl,rfl⟩
set_option maxRecDepth 100000 in
set_option maxHeartbeats 1000000 in
theorem clone_strs (b off cap:Nat) (ks:List (List UInt8)) (w:World) (hl:ks.length≤1048576) (hs:IsStrs w (some ⟨b,off,none⟩) ks) :
 Calls Tryz.prog 47 #[.slice (some ⟨b,off,none⟩) ks.length cap] w fun e w'=>∃ (a:Option Addr) (c:Nat),e=.returned (.slice a ks.length c)∧w'.ownsRow w.heap.size 9 1 (.slice a ks.length c) ks.length (scells ks)∧Below w.heap.size w w':=by
 obtain⟨i0,hi0,hz0,hz1,hz2⟩:=info_parts info9n
 have B0:Below w.heap.size w (w.alloc (.cells #[] 9)):=(Below.refl _ _).alloc (Nat.le_refl _) _
 have HB0:Hid (Below w.heap.size w (w.alloc (.cells #[] 9))):=B0
 have HO0:=hidOwn (World.ownsRow_lit (e:=9) (size:=1) w #[] 0 (base:=w.heap.size) (Nat.le_refl _) (Nat.zero_le _) rfl)
 have HI0:Hid (IsStrs (w.alloc (.cells #[] 9)) (some ⟨b,off,none⟩) ks):=strs_later hs B0
 have hnil:∀ W,(binOp .eql 22 (.slice (some ⟨b,off,none⟩) ks.length cap) (.slice none 0 0)).run Tryz.prog W=.ok (.bool false) W:=fun W=>by first | rfl | (simp[binOp,Op.equal,run_underlying Tryz.underlying22])
 clear hs B0
 go_enter Tryz.func47,Tryz.ntmps47
 go_wp2_with (first
  | (at_builtin; refine wpList_append_strs rfl _ _ 22 rfl w.heap.size 9 i0 (.string ⟨#[]⟩) 16 Tryz.underlying22 hi0 hz0 hz1 hz2 rfl (.slice (some ⟨w.heap.size, 0, none⟩) 0 0) 0 [] rfl HO0.out (some ⟨b, off, none⟩) ks ks.length cap rfl rfl (by simp) HI0.out (by unfold maxLen; omega) (by omega) (by simp) ?_; intro v3 w3 o3 g3; obtain ⟨a3, m3, c3, rfl⟩ := own_sliceT o3
     have O3:Hid (w3.ownsRow w.heap.size 9 1 (.slice a3 m3 c3) ks.length (scells ks)):=(by rw[Hid];simpa using o3)
     have B3:Hid (Below w.heap.size w w3):=HB0.out.grown g3 HB0.out.size (fun q hq=>(HO0.out.lt q hq).1)
     clear o3 g3))
 obtain⟨hm3,_,_⟩:=strs_own O3.out
 subst hm3
 first | go_ret | (go_wp2;go_ret)
 exact⟨a3,c3,rfl,O3.out,B3.out⟩
set_option maxRecDepth 100000 in
theorem clone_strs0 (w:World):Calls Tryz.prog 47 #[.slice none 0 0] w fun e w'=>e=.returned (.slice none 0 0)∧w'=w:=by
 have hnil:∀ W,(binOp .eql 22 (.slice none 0 0) (.slice none 0 0)).run Tryz.prog W=.ok (.bool true) W:=fun W=>by first | rfl | (simp[binOp,Op.equal,run_underlying Tryz.underlying22])
 go_enter Tryz.func47,Tryz.ntmps47
 go_wp2
 go_ret
 exact⟨rfl,rfl⟩
theorem clone_keys (a:Option Addr) (cap:Nat) (ks:List (List UInt8)) (w:World) (hl:ks.length≤1048576) (hca:a=none→cap=0) (haa:a=none∨∃ b off,a=some ⟨b,off,none⟩) (hs:IsStrs w a ks) :
 Calls Tryz.prog 47 #[.slice a ks.length cap] w fun e w'=>∃ (a:Option Addr) (c:Nat),e=.returned (.slice a ks.length c)∧w'.ownsRow w.heap.size 9 1 (.slice a ks.length c) ks.length (scells ks)∧Below w.heap.size w w':=by
 rcases haa with rfl | ⟨b,off,rfl⟩
 · have hk:ks=[]:=by
    rcases hs with h | ⟨b,off,h,_⟩
    · exact h
    · cases h
   subst hk
   obtain rfl:=hca rfl
   refine (clone_strs0 w).mono ?_
   rintro e w' ⟨rfl,rfl⟩
   exact⟨none,0,rfl,World.ownsRow_nil _ _ _ _,Below.refl _ _⟩
 · exact clone_strs b off cap ks w hl hs
open Go.RowKit Go.Extern.Stop Go.Stop Go.Extern
theorem refNoIs (v:Value) (xT:TypeId) (w:World):(Instr.typeAssert (.iface 59 v) xT 163 true).run Tryz.prog w=.ok (.tuple #[.nilIface,.bool false]) w:=run_typeAssert_lacksB Tryz.underlying163 (by kernel_rfl) (by kernel_rfl) v xT w
theorem refUn (v:Value) (xT:TypeId) (w:World):(Instr.typeAssert (.iface 59 v) xT 139 true).run Tryz.prog w=.ok (.tuple #[.iface 59 v,.bool true]) w:=run_typeAssert_hasB Tryz.underlying139 (by kernel_rfl) v xT w
theorem refMeth (c y : Value) (w : World) : (Go.method 334 59 (.agg #[c, y]) "Unwrap").run Tryz.prog w = .ok (174, .agg #[c, y]) w := by kernel_rfl
set_option maxRecDepth 100000 in
theorem ref_unwrap (z:Int) (t:TypeId) (v:Value) (w:World):Calls Tryz.prog 174 #[.agg #[.int .i64 z,.iface t v]] w fun e w'=>e=.returned (.iface t v)∧w'=w.alloc (.cells #[.int .i64 z,.iface t v] 59):=by
 have h:=heap_alloc_new w (.cells #[.int .i64 z,.iface t v] 59)
 go_enter Tryz.func174,Tryz.ntmps174
 go_wp2
 go_ret
 exact⟨rfl,rfl⟩
set_option maxRecDepth 100000 in
set_option maxHeartbeats 1000000 in
theorem is_refOther (z:Int) (a b:Addr) (ca cb:Array Value) (ta tb:TypeId) (w:World) (hne:a≠b) (ha:w.heap[a.block]? = some (.cells ca ta (0,0))) (hb:w.heap[b.block]? = some (.cells cb tb (0,0))):Calls Tryz.prog 46 #[.iface 59 (.agg #[.int .i64 z,.iface 203 (.pointer (some a))]),.iface 203 (.pointer (some b))] w fun e w'=>e=.returned (.bool false)∧w'=w.alloc (.cells #[.int .i64 z,.iface 203 (.pointer (some a))] 59):=by
 obtain⟨i,hi,hcmp⟩:=Option.map_eq_some_iff.1 errInfo
 obtain⟨j,hj,hjs⟩:=Option.map_eq_some_iff.1 errSize
 have e1:=@run_callFunc_extern Tryz.prog 73 _ Extern.ReflectliteType.typeOf Tryz.func73 (by kernel_rfl) (by kernel_rfl) (by kernel_rfl) (by kernel_rfl)
 have e2:=@run_callFunc_extern Tryz.prog 180 _ cmpM Tryz.func180 (by kernel_rfl) (by kernel_rfl) (by kernel_rfl) (by kernel_rfl)
 have e3:=errType
 have e4:=errComp
 have e5:=errMeth
 have e6:=errNoIs
 have e7:=errNoUn
 have e8:=errNoUns
 have r6:=refNoIs
 have r7:=refUn
 have r5:=refMeth (.int .i64 z) (.iface 203 (.pointer (some a)))
 have la:a.block<w.heap.size:=lt_of_block ha
 have lb:b.block<w.heap.size:=lt_of_block hb
 have KU:=ref_unwrap z 203 (.pointer (some a)) w
 have q1:=run_eql_iface_types (P:=Tryz.prog) 59 203 (.agg #[.int .i64 z,.iface 203 (.pointer (some a))]) (.pointer (some b)) Tryz.underlying54 (by decide) w
 obtain⟨w2,hw2⟩:∃ W,W=w.alloc (.cells #[.int .i64 z,.iface 203 (.pointer (some a))] 59):=⟨_,rfl⟩
 have ha2:w2.heap[a.block]? = some (.cells ca ta (0,0)):=by rw[hw2];exact (Below.heap_alloc _ _ _ (by omega)).trans ha
 have hb2:w2.heap[b.block]? = some (.cells cb tb (0,0)):=by rw[hw2];exact (Below.heap_alloc _ _ _ (by omega)).trans hb
 have heq:=run_eql_iface_ptr_other (P:=Tryz.prog) w2 Tryz.underlying54 Tryz.underlying203 hi hcmp hj (by rw[hjs];decide) hne ha2 hb2
 rw[←hw2] at KU ⊢
 clear ha hb ha2 hb2 la lb hw2
 go_enter Tryz.func46,Tryz.ntmps46
 go_wp2
 refine wp_loop_rounds 2 ?_
 rw[rounds_succ]
 have hn:∀ W,(binOp .eql 54 (.iface 203 (.pointer (some a))) .nilIface).run Tryz.prog W=.ok (.bool false) W:=fun W=>by apply run_eql_iface_nil;kernel_rfl
 go_wp2_with (first
  | (go_at_call 174;refine KU.mono ?_;rintro e wq ⟨rfl,rfl⟩))
 rw[rounds_succ]
 go_wp2
 go_ret
 exact⟨rfl,rfl⟩
set_option maxRecDepth 100000 in
set_option maxHeartbeats 1000000 in
theorem is_refSame (z:Int) (a:Addr) (w:World):Calls Tryz.prog 46 #[.iface 59 (.agg #[.int .i64 z,.iface 203 (.pointer (some a))]),.iface 203 (.pointer (some a))] w fun e w'=>e=.returned (.bool true)∧w'=w.alloc (.cells #[.int .i64 z,.iface 203 (.pointer (some a))] 59):=by
 obtain⟨i,hi,hcmp⟩:=Option.map_eq_some_iff.1 errInfo
 obtain⟨j,hj,hjs⟩:=Option.map_eq_some_iff.1 errSize
 have e1:=@run_callFunc_extern Tryz.prog 73 _ Extern.ReflectliteType.typeOf Tryz.func73 (by kernel_rfl) (by kernel_rfl) (by kernel_rfl) (by kernel_rfl)
 have e2:=@run_callFunc_extern Tryz.prog 180 _ cmpM Tryz.func180 (by kernel_rfl) (by kernel_rfl) (by kernel_rfl) (by kernel_rfl)
 have e3:=errType
 have e4:=errComp
 have e5:=errMeth
 have e6:=errNoIs
 have e7:=errNoUn
 have e8:=errNoUns
 have r6:=refNoIs
 have r7:=refUn
 have r5:=refMeth (.int .i64 z) (.iface 203 (.pointer (some a)))
 have KU:=ref_unwrap z 203 (.pointer (some a)) w
 have q1:=run_eql_iface_types (P:=Tryz.prog) 59 203 (.agg #[.int .i64 z,.iface 203 (.pointer (some a))]) (.pointer (some a)) Tryz.underlying54 (by decide) w
 obtain⟨w2,hw2⟩:∃ W,W=w.alloc (.cells #[.int .i64 z,.iface 203 (.pointer (some a))] 59):=⟨_,rfl⟩
 have heq:=run_eql_iface_ptr_same (P:=Tryz.prog) w2 a Tryz.underlying54 Tryz.underlying203 hi hcmp hj
 rw[←hw2] at KU ⊢
 clear hw2
 go_enter Tryz.func46,Tryz.ntmps46
 go_wp2
 refine wp_loop_rounds 2 ?_
 rw[rounds_succ]
 have hn:∀ W,(binOp .eql 54 (.iface 203 (.pointer (some a))) .nilIface).run Tryz.prog W=.ok (.bool false) W:=fun W=>by apply run_eql_iface_nil;kernel_rfl
 go_wp2_with (first
  | (go_at_call 174;refine KU.mono ?_;rintro e wq ⟨rfl,rfl⟩))
 rw[rounds_succ]
 go_wp2
 go_ret
 exact⟨rfl,rfl⟩
set_option maxRecDepth 100000 in
set_option maxHeartbeats 2000000 in
theorem impl_behind_not (a:Option Addr) (cap:Nat) (ks:List (List UInt8)) (sn nx:Int) (w:World) (x:Value) (e0:Addr) (hg:w.cell? ⟨0,0,none⟩=some (.iface 203 (.pointer (some e0)))) (hK:∀ W,Below w.heap.size w W→Calls Tryz.prog 46 #[x,.iface 203 (.pointer (some e0))] W fun e w'=>e=.returned (.bool false)∧Below W.heap.size W w') (hl:ks.length≤1048576) (hca:a=none→cap=0) (haa:a=none∨∃ b off,a=some ⟨b,off,none⟩) (hs:IsStrs w a ks) :
 Calls Tryz.prog 26 #[.agg #[.slice a ks.length cap,.int .i64 sn,.int .i64 nx],x] w fun e w'=>∃ (a':Option Addr) (c':Nat),e=.returned (.agg #[.slice a' ks.length c',.int .i64 sn,.int .i64 nx])∧w'.ownsRow w.heap.size 9 1 (.slice a' ks.length c') ks.length (scells ks)∧Below w.heap.size w w':=by
 have B0:Below w.heap.size w ((w.alloc (.cells #[.slice a ks.length cap,.int .i64 sn,.int .i64 nx] 31)).alloc (.cells #[.slice none 0 0,.int .i64 0,.int .i64 0] 31)):=((Below.refl _ _).alloc (Nat.le_refl _) _).alloc (by simp) _
 have x0:((w.alloc (.cells #[.slice a ks.length cap,.int .i64 sn,.int .i64 nx] 31)).alloc (.cells #[.slice none 0 0,.int .i64 0,.int .i64 0] 31)).heap[w.heap.size]? = some (.cells #[.slice a ks.length cap,.int .i64 sn,.int .i64 nx] 31 (0,0)):=(Below.heap_alloc _ _ _ (by simp)).trans (heap_alloc_new w _)
 have y0:((w.alloc (.cells #[.slice a ks.length cap,.int .i64 sn,.int .i64 nx] 31)).alloc (.cells #[.slice none 0 0,.int .i64 0,.int .i64 0] 31)).heap[w.heap.size+1]? = some (.cells #[.slice none 0 0,.int .i64 0,.int .i64 0] 31 (0,0)):=by
  have:=heap_alloc_new (w.alloc (.cells #[.slice a ks.length cap,.int .i64 sn,.int .i64 nx] 31)) (.cells #[.slice none 0 0,.int .i64 0,.int .i64 0] 31)
  simpa using this
 have g0:=(B0.cell (World.block_lt_of_cell? w _ hg)).trans hg
 have K1:=hK ((w.alloc (.cells #[.slice a ks.length cap,.int .i64 sn,.int .i64 nx] 31)).alloc (.cells #[.slice none 0 0,.int .i64 0,.int .i64 0] 31)) B0
 obtain⟨wa,hwa⟩:∃ wa,wa=((w.alloc (.cells #[.slice a ks.length cap,.int .i64 sn,.int .i64 nx] 31)).alloc (.cells #[.slice none 0 0,.int .i64 0,.int .i64 0] 31)):=⟨_,rfl⟩
 have sa:wa.heap.size=w.heap.size+2:=by rw[hwa];simp
 rw[←hwa] at B0 x0 y0 K1
 have HB0:Hid (Below w.heap.size w wa):=B0
 have HX0:Hid (wa.heap[w.heap.size]? = some (.cells #[.slice a ks.length cap,.int .i64 sn,.int .i64 nx] 31 (0,0))):=x0
 have HY0:Hid (wa.heap[w.heap.size+1]? = some (.cells #[.slice none 0 0,.int .i64 0,.int .i64 0] 31 (0,0))):=y0
 have HSA:Hid (wa.heap.size=w.heap.size+2):=sa
 have HK2:Hid (∀ W,Below w.heap.size w W→_):=fun W hW=>clone_keys a cap ks W hl hca haa (strs_later hs hW)
 have HSC:Hid (∀ W:World,W.heap[w.heap.size]? = some (.cells #[.slice a ks.length cap,.int .i64 sn,.int .i64 nx] 31 (0,0))→W.cell? ⟨w.heap.size,0,none⟩=some (.slice a ks.length cap)∧W.cell? ⟨w.heap.size,1,none⟩=some (.int .i64 sn)∧W.cell? ⟨w.heap.size,2,none⟩=some (.int .i64 nx)):=fun W hW=>by
  obtain⟨h1,h2,h3,_⟩:=bat_cells hW
  exact⟨h1,h2,h3⟩
 clear hs hg hK x0 y0 sa B0
 go_enter Tryz.func26,Tryz.ntmps26
 go_wp2_with fail
 rw[←hwa]
 refine K1.mono ?_
 rintro e w1 ⟨rfl,b1⟩
 have HX1:Hid (w1.heap[w.heap.size]? = some (.cells #[.slice a ks.length cap,.int .i64 sn,.int .i64 nx] 31 (0,0))):=(b1.block w.heap.size (lt_of_block HX0.out)).trans HX0.out
 have HY1:Hid (w1.heap[w.heap.size+1]? = some (.cells #[.slice none 0 0,.int .i64 0,.int .i64 0] 31 (0,0))):=(b1.block (w.heap.size+1) (lt_of_block HY0.out)).trans HY0.out
 have HB1:Hid (Below w.heap.size w w1):=HB0.out.trans (b1.mono HB0.out.size)
 have hs1:w.heap.size+2≤w1.heap.size:=by have h1:=HSA.out;have h2:=b1.size;omega
 have HS1:Hid (w.heap.size+2≤w1.heap.size):=hs1
 clear hs1
 have K2:=HK2.out w1.drew ⟨HB1.out.os,HB1.out.tape,HB1.out.output,HB1.out.size,HB1.out.block⟩
 clear K1 g0 b1 HK2
 have Sd:Hid (w1.drew.cell? ⟨w.heap.size,0,none⟩=some (.slice a ks.length cap)∧w1.drew.cell? ⟨w.heap.size,1,none⟩=some (.int .i64 sn)∧w1.drew.cell? ⟨w.heap.size,2,none⟩=some (.int .i64 nx)):=HSC.out w1.drew HX1.out
 clear hwa
 go_wp2
 go_region_held3 (fun w'=>w'.cell? ⟨w.heap.size,0,none⟩=some (.slice a ks.length cap)∧w'.cell? ⟨w.heap.size,1,none⟩=some (.int .i64 sn)∧w'.cell? ⟨w.heap.size,2,none⟩=some (.int .i64 nx))
  (first | with_reducible exact S5.out | with_reducible exact S4.out | with_reducible exact Sd.out)
  ((go_at_call 47
    with_reducible refine K2.mono ?_
    rintro e w4 ⟨a4,c4,rfl,o4,b4'⟩
    have b4:Below w1.heap.size w1 w4:=⟨b4'.os,b4'.tape,b4'.output,b4'.size,b4'.block⟩
    have o4':w4.ownsRow w1.heap.size 9 1 (.slice a4 ks.length c4) ks.length (scells ks):=o4
    have hs4:=HS1.out
    have X4:w4.heap[w.heap.size]? = some (.cells #[.slice a ks.length cap,.int .i64 sn,.int .i64 nx] 31 (0,0)):=(b4.block w.heap.size (by omega)).trans HX1.out
    have Y4:w4.heap[w.heap.size+1]? = some (.cells #[.slice none 0 0,.int .i64 0,.int .i64 0] 31 (0,0)):=(b4.block (w.heap.size+1) (by omega)).trans HY1.out
    have S4:Hid (w4.cell? ⟨w.heap.size,0,none⟩=some (.slice a ks.length cap)∧w4.cell? ⟨w.heap.size,1,none⟩=some (.int .i64 sn)∧w4.cell? ⟨w.heap.size,2,none⟩=some (.int .i64 nx)):=HSC.out w4 X4
    have F:Hid ((((w4.setCell ⟨w.heap.size+1,0,none⟩ (.slice a4 ks.length c4)).setCell ⟨w.heap.size+1,1,none⟩ (.int .i64 sn)).setCell ⟨w.heap.size+1,2,none⟩ (.int .i64 nx)).heap[w.heap.size+1]? = some (.cells #[.slice a4 ks.length c4,.int .i64 sn,.int .i64 nx] 31 (0,0))):=bat_set (j:=2) (bat_set (j:=1) (bat_set (j:=0) Y4))
    have X5:(((w4.setCell ⟨w.heap.size+1,0,none⟩ (.slice a4 ks.length c4)).setCell ⟨w.heap.size+1,1,none⟩ (.int .i64 sn)).setCell ⟨w.heap.size+1,2,none⟩ (.int .i64 nx)).heap[w.heap.size]? = some (.cells #[.slice a ks.length cap,.int .i64 sn,.int .i64 nx] 31 (0,0)):=(Below.heap_setCell _ _ _ _ (by simp)).trans ((Below.heap_setCell _ _ _ _ (by simp)).trans ((Below.heap_setCell _ _ _ _ (by simp)).trans X4))
    have S5:Hid ((((w4.setCell ⟨w.heap.size+1,0,none⟩ (.slice a4 ks.length c4)).setCell ⟨w.heap.size+1,1,none⟩ (.int .i64 sn)).setCell ⟨w.heap.size+1,2,none⟩ (.int .i64 nx)).cell? ⟨w.heap.size,0,none⟩=some (.slice a ks.length cap)∧(((w4.setCell ⟨w.heap.size+1,0,none⟩ (.slice a4 ks.length c4)).setCell ⟨w.heap.size+1,1,none⟩ (.int .i64 sn)).setCell ⟨w.heap.size+1,2,none⟩ (.int .i64 nx)).cell? ⟨w.heap.size,1,none⟩=some (.int .i64 sn)∧(((w4.setCell ⟨w.heap.size+1,0,none⟩ (.slice a4 ks.length c4)).setCell ⟨w.heap.size+1,1,none⟩ (.int .i64 sn)).setCell ⟨w.heap.size+1,2,none⟩ (.int .i64 nx)).cell? ⟨w.heap.size,2,none⟩=some (.int .i64 nx)):=HSC.out _ X5
    have O5:Hid ((((w4.setCell ⟨w.heap.size+1,0,none⟩ (.slice a4 ks.length c4)).setCell ⟨w.heap.size+1,1,none⟩ (.int .i64 sn)).setCell ⟨w.heap.size+1,2,none⟩ (.int .i64 nx)).ownsRow w.heap.size 9 1 (.slice a4 ks.length c4) ks.length (scells ks)):=ownsRow_setCell_other (ownsRow_setCell_other (ownsRow_setCell_other (o4'.mono (by omega)) (fun e=>by have:=(o4'.lt _ e).1;dsimp only at this;omega) _) (fun e=>by have:=(o4'.lt _ e).1;dsimp only at this;omega) _) (fun e=>by have:=(o4'.lt _ e).1;dsimp only at this;omega) _
    have B5:Hid (Below w.heap.size w (((w4.setCell ⟨w.heap.size+1,0,none⟩ (.slice a4 ks.length c4)).setCell ⟨w.heap.size+1,1,none⟩ (.int .i64 sn)).setCell ⟨w.heap.size+1,2,none⟩ (.int .i64 nx))):=(((HB1.out.trans (b4.mono HB1.out.size)).setCell (by simp) _).setCell (by simp) _).setCell (by simp) _
    obtain⟨y0,y1,y2,yf⟩:=bat_cells Y4
    have yf0:=yf 0
    have yf1:=yf 1
    have yf2:=yf 2
    clear b4' b4 o4 o4' X4 Y4 X5 yf hs4))
 all_goals
  go_wp2
  exact bodyPost_ret (v:=.agg #[.slice a4 ks.length c4,.int .i64 sn,.int .i64 nx]) (results_cell_row rfl _ _ (w.heap.size+1) 31 _ (0,0) _ rfl F.out Tryz.underlying31 rfl (by kernel_rfl)) rfl ⟨a4,c4,rfl,O5.out,B5.out⟩
set_option maxRecDepth 100000 in
set_option maxHeartbeats 2000000 in
theorem impl_behind_is (a:Option Addr) (cap:Nat) (ks:List (List UInt8)) (sn nx:Int) (w:World) (x:Value) (e0:Addr) (hg:w.cell? ⟨0,0,none⟩=some (.iface 203 (.pointer (some e0)))) (hK:∀ W,Below w.heap.size w W→Calls Tryz.prog 46 #[x,.iface 203 (.pointer (some e0))] W fun e w'=>e=.returned (.bool true)∧Below W.heap.size W w') :
 Calls Tryz.prog 26 #[.agg #[.slice a ks.length cap,.int .i64 sn,.int .i64 nx],x] w fun e w'=>e=.returned (.agg #[.slice none 0 0,.int .i64 0,.int .i64 0])∧Below w.heap.size w w':=by
 have B0:Below w.heap.size w ((w.alloc (.cells #[.slice a ks.length cap,.int .i64 sn,.int .i64 nx] 31)).alloc (.cells #[.slice none 0 0,.int .i64 0,.int .i64 0] 31)):=((Below.refl _ _).alloc (Nat.le_refl _) _).alloc (by simp) _
 have y0:((w.alloc (.cells #[.slice a ks.length cap,.int .i64 sn,.int .i64 nx] 31)).alloc (.cells #[.slice none 0 0,.int .i64 0,.int .i64 0] 31)).heap[w.heap.size+1]? = some (.cells #[.slice none 0 0,.int .i64 0,.int .i64 0] 31 (0,0)):=by
  have:=heap_alloc_new (w.alloc (.cells #[.slice a ks.length cap,.int .i64 sn,.int .i64 nx] 31)) (.cells #[.slice none 0 0,.int .i64 0,.int .i64 0] 31)
  simpa using this
 have g0:=(B0.cell (World.block_lt_of_cell? w _ hg)).trans hg
 have K1:=hK ((w.alloc (.cells #[.slice a ks.length cap,.int .i64 sn,.int .i64 nx] 31)).alloc (.cells #[.slice none 0 0,.int .i64 0,.int .i64 0] 31)) B0
 have HB0:Hid (Below w.heap.size w ((w.alloc (.cells #[.slice a ks.length cap,.int .i64 sn,.int .i64 nx] 31)).alloc (.cells #[.slice none 0 0,.int .i64 0,.int .i64 0] 31))):=B0
 have HY0:Hid (((w.alloc (.cells #[.slice a ks.length cap,.int .i64 sn,.int .i64 nx] 31)).alloc (.cells #[.slice none 0 0,.int .i64 0,.int .i64 0] 31)).heap[w.heap.size+1]? = some (.cells #[.slice none 0 0,.int .i64 0,.int .i64 0] 31 (0,0))):=y0
 clear hg hK B0 y0
 go_enter Tryz.func26,Tryz.ntmps26
 go_wp2_with fail
 refine K1.mono ?_
 rintro e w1 ⟨rfl,b1⟩
 have HY1:Hid (w1.heap[w.heap.size+1]? = some (.cells #[.slice none 0 0,.int .i64 0,.int .i64 0] 31 (0,0))):=(b1.block (w.heap.size+1) (lt_of_block HY0.out)).trans HY0.out
 have HB1:Hid (Below w.heap.size w w1):=HB0.out.trans (b1.mono HB0.out.size)
 clear K1 g0 b1 HB0 HY0
 obtain⟨y0,y1,y2,yf⟩:=bat_cells HY1.out
 have yf0:=yf 0
 have yf1:=yf 1
 have yf2:=yf 2
 clear yf
 go_wp2
 exact bodyPost_ret (v:=.agg #[.slice none 0 0,.int .i64 0,.int .i64 0]) (results_cell_row rfl _ _ (w.heap.size+1) 31 _ (0,0) _ rfl (bat_set (j:=2) (bat_set (j:=1) (bat_set (j:=0) HY1.out))) Tryz.underlying31 rfl (by kernel_rfl)) rfl ⟨rfl,((HB1.out.setCell (by simp) _).setCell (by simp) _).setCell (by simp) _⟩
open Go.RowKit Go.Extern.Stop Go.Stop Go.Extern
theorem as_nil (t:Value) (w:World):Calls Tryz.prog 27 #[.nilIface,t] w fun e w'=>e=.returned (.bool false)∧w'=w:=by
 go_enter Tryz.func27,Tryz.ntmps27
 go_wp2
 go_ret
 exact⟨rfl,rfl⟩
theorem asValueP (t:Addr) (w:World):(ReflectliteValue.unpack (.iface 61 (.pointer (some t)))).run Tryz.prog w
 = .ok (.agg #[.pointer (some ⟨7,61,none⟩),.pointer (some ⟨w.heap.size,0,none⟩),.int .u64 150]) (w.alloc (.cells #[.pointer (some t)] 61)):=by kernel_rfl
theorem asTypeP (a : Addr) (w : World) : (ReflectliteValue.methodAny (ReflectliteValue.valueError "reflectlite.Value.Type" 0) (fun t _ _ _ => ReflectliteType.toType t) #[.agg #[.pointer (some ⟨7, 61, none⟩), .pointer (some a), .int .u64 150]]).run Tryz.prog w
 = .ok (.iface 132 (.agg #[.pointer (some ⟨7,61,none⟩)])) w:=by kernel_rfl
theorem asMethKind (h : Value) (w : World) : (Go.method 334 132 (.agg #[h]) "Kind").run Tryz.prog w = .ok (170, h) w := by kernel_rfl
theorem asKindP (w:World):((ReflectliteType.abiMethod fun t=>(fun a:Nat=>Value.int IntKind.u8 (a:Int)) <$> Rtype.kind t) #[.pointer (some ⟨7,61,none⟩)]).run Tryz.prog w=.ok (.int .u8 22) w:=by kernel_rfl
theorem asKindR (w:World):((ReflectliteType.abiMethod fun t=>(fun a:Nat=>Value.int IntKind.u8 (a:Int)) <$> Rtype.kind t) #[.pointer (some ⟨7,59,none⟩)]).run Tryz.prog w=.ok (.int .u8 25) w:=by kernel_rfl
theorem asPartsP (a:Addr) (w:World):(ReflectliteValue.parts (.agg #[.pointer (some ⟨7,61,none⟩),.pointer (some a),.int .u64 150])).run Tryz.prog w=.ok (some (61,a,150)) w:=by kernel_rfl
theorem asIsNilP (a p:Addr) (W:World) (ha:W.cell? a=some (.pointer (some p))) :
 (ReflectliteValue.method (ReflectliteValue.valueError "reflectlite.Value.IsNil" 0) ReflectliteValue.isNil #[.agg #[.pointer (some ⟨7, 61, none⟩), .pointer (some a), .int .u64 150]]).run Tryz.prog W = .ok (.bool false) W := by
 rw [show ReflectliteValue.method (ReflectliteValue.valueError "reflectlite.Value.IsNil" 0) ReflectliteValue.isNil #[.agg #[.pointer (some ⟨7, 61, none⟩), .pointer (some a), .int .u64 150]] = ReflectliteValue.parts (.agg #[.pointer (some ⟨7, 61, none⟩), .pointer (some a), .int .u64 150]) >>= _ from rfl]
 simp only[Sem.run_bind,asPartsP,Result.andThen]
 simp[ReflectliteValue.isNil,loadVar,isAgg,underlying,Tryz.underlying61,ha,Result.andThen]
theorem asMethElem (h : Value) (w : World) : (Go.method 334 132 (.agg #[h]) "Elem").run Tryz.prog w = .ok (181, .agg #[h]) w := by kernel_rfl
theorem asMethImpl (h : Value) (w : World) : (Go.method 334 132 (.agg #[h]) "Implements").run Tryz.prog w = .ok (182, .agg #[h]) w := by kernel_rfl
theorem asMethAssign (h : Value) (w : World) : (Go.method 334 132 (.agg #[h]) "AssignableTo").run Tryz.prog w = .ok (179, .agg #[h]) w := by kernel_rfl
theorem asElemP (w:World):(ReflectliteType.method ReflectliteType.elem #[.agg #[.pointer (some ⟨7,61,none⟩)]]).run Tryz.prog w=.ok (.iface 132 (.agg #[.pointer (some ⟨7,59,none⟩)])) w:=by kernel_rfl
theorem asImplR (w : World) : (ReflectliteType.relation "Implements" ReflectliteType.implements_ #[.agg #[.pointer (some ⟨7, 59, none⟩)], .iface 132 (.agg #[.pointer (some ⟨7, 54, none⟩)])]).run Tryz.prog w = .ok (.bool true) w := by kernel_rfl
theorem asTypeOfR (v:Value) (w:World):(ReflectliteType.typeOf #[.iface 59 v]).run Tryz.prog w=.ok (.iface 132 (.agg #[.pointer (some ⟨7,59,none⟩)])) w:=by kernel_rfl
theorem asAssignR (w : World) : (ReflectliteType.relation "AssignableTo" ReflectliteType.assignableTo #[.agg #[.pointer (some ⟨7, 59, none⟩)], .iface 132 (.agg #[.pointer (some ⟨7, 59, none⟩)])]).run Tryz.prog w = .ok (.bool true) w := by kernel_rfl
theorem asValueR (c y:Value) (w:World):(ReflectliteValue.unpack (.iface 59 (.agg #[c,y]))).run Tryz.prog w
 = .ok (.agg #[.pointer (some ⟨7,59,none⟩),.pointer (some ⟨w.heap.size,0,none⟩),.int .u64 153]) (w.alloc (.cells #[c,y] 59)):=by kernel_rfl
theorem asElemOf (w:World):(Rtype.elem? 61).run Tryz.prog w=.ok (some 59) w:=by kernel_rfl
theorem asMkR (p:Addr) (w:World):(ReflectliteValue.mk 59 p ReflectliteValue.flagAddr).run Tryz.prog w=.ok (.agg #[.pointer (some ⟨7,59,none⟩),.pointer (some p),.int .u64 409]) w:=by kernel_rfl
theorem asElemVP (a p:Addr) (W:World) (ha:W.cell? a=some (.pointer (some p))) :
 (ReflectliteValue.method (ReflectliteValue.valueError "reflectlite.Value.Elem" 0) ReflectliteValue.elem #[.agg #[.pointer (some ⟨7, 61, none⟩), .pointer (some a), .int .u64 150]]).run Tryz.prog W
  = .ok (.agg #[.pointer (some ⟨7,59,none⟩),.pointer (some p),.int .u64 409]) W:=by
 rw [show ReflectliteValue.method (ReflectliteValue.valueError "reflectlite.Value.Elem" 0) ReflectliteValue.elem #[.agg #[.pointer (some ⟨7, 61, none⟩), .pointer (some a), .int .u64 150]] = ReflectliteValue.parts (.agg #[.pointer (some ⟨7, 61, none⟩), .pointer (some a), .int .u64 150]) >>= _ from rfl]
 simp only[Sem.run_bind,asPartsP,Result.andThen]
 simp[ReflectliteValue.elem,loadVar,isAgg,underlying,Tryz.underlying61,ha,Result.andThen,asElemOf,asMkR]
theorem asPartsRa (a:Addr) (w:World):(ReflectliteValue.parts (.agg #[.pointer (some ⟨7,59,none⟩),.pointer (some a),.int .u64 409])).run Tryz.prog w=.ok (some (59,a,409)) w:=by kernel_rfl
theorem asPartsR (a:Addr) (w:World):(ReflectliteValue.parts (.agg #[.pointer (some ⟨7,59,none⟩),.pointer (some a),.int .u64 153])).run Tryz.prog w=.ok (some (59,a,153)) w:=by kernel_rfl
theorem asDirectR (w:World):(Rtype.directlyAssignable 59 59).run Tryz.prog w=.ok true w:=by kernel_rfl
theorem asSetR (ta b:Nat) (c y o0 o1:Value) (W:World) (hb:W.heap[b]? = some (.cells #[c,y] 59 (0,0))) (h0:W.cell? ⟨ta,0,none⟩=some o0) (h1:W.cell? ⟨ta,1,none⟩=some o1) (f0:W.frozen? ⟨ta,0,none⟩=false) (f1:W.frozen? ⟨ta,1,none⟩=false) (hc:c.oneCell'=true) (hy:y.oneCell'=true) :
 (ReflectliteValue.set #[.agg #[.pointer (some ⟨7, 59, none⟩), .pointer (some ⟨ta, 0, none⟩), .int .u64 409], .agg #[.pointer (some ⟨7, 59, none⟩), .pointer (some ⟨b, 0, none⟩), .int .u64 153]]).run Tryz.prog W
  = .ok (.tuple #[]) ((W.setCell ⟨ta,0,none⟩ c).setCell ⟨ta,1,none⟩ y):=by
 have hl:=run_loadVar_row W b 59 59 #[c,y] (0,0) _ hb Tryz.underlying59 rfl (by kernel_rfl)
 have hsz:(sizeOf 59).run Tryz.prog W=.ok 2 W:=by kernel_rfl
 rw[show ReflectliteValue.set #[.agg #[.pointer (some ⟨7,59,none⟩),.pointer (some ⟨ta,0,none⟩),.int .u64 409],.agg #[.pointer (some ⟨7,59,none⟩),.pointer (some ⟨b,0,none⟩),.int .u64 153]]=ReflectliteValue.parts (.agg #[.pointer (some ⟨7,59,none⟩),.pointer (some ⟨ta,0,none⟩),.int .u64 409]) >>= _ from rfl]
 simp only[Sem.run_bind,asPartsRa,Result.andThen]
 simp[Array.getLit,asPartsR,ReflectliteValue.flagAddr,hl,asDirectR,storeVar,Value.cells,storeCells,Addr.add,hsz,Result.andThen]
 rw[run_store Tryz.prog W ⟨ta,0,none⟩ _ _ hc]
 simp only[h0,f0,Bool.false_eq_true,if_false]
 rw[run_store Tryz.prog _ ⟨ta,1,none⟩ _ _ hy]
 rw[World.cell?_setCell_other W ⟨ta,0,none⟩ ⟨ta,1,none⟩ c (by simp),World.frozen?_setCell,h1,f1]
 simp
set_option maxHeartbeats 4000000 in
theorem as_hit (t:Nat) (c y o0 o1:Value) (w:World) (hg:w.cell? ⟨4,0,none⟩=some (.iface 132 (.agg #[.pointer (some ⟨7,54,none⟩)]))) (h0:w.cell? ⟨t,0,none⟩=some o0) (h1:w.cell? ⟨t,1,none⟩=some o1) (f0:w.frozen? ⟨t,0,none⟩=false) (f1:w.frozen? ⟨t,1,none⟩=false) (hc:c.oneCell'=true) (hy:y.oneCell'=true) :
 Calls Tryz.prog 27 #[.iface 59 (.agg #[c,y]),.iface 61 (.pointer (some ⟨t,0,none⟩))] w fun ev w'=>ev=.returned (.bool true)∧w'=(((((w.alloc (.cells #[.pointer (some ⟨t,0,none⟩)] 61)).alloc (.cells #[.pointer (some ⟨7,61,none⟩),.pointer (some ⟨w.heap.size,0,none⟩),.int .u64 150] 90)).alloc (.cells #[.pointer (some ⟨7,61,none⟩),.pointer (some ⟨w.heap.size,0,none⟩),.int .u64 150] 90)).alloc (.cells #[c,y] 59)).setCell ⟨t,0,none⟩ c).setCell ⟨t,1,none⟩ y:=by
 have h6:=@run_callFunc_extern Tryz.prog 48 _ (fun args=>ReflectliteValue.unpack (args.getD 0 (.tuple #[]))) Tryz.func48 (by kernel_rfl) (by kernel_rfl) (by kernel_rfl) (by kernel_rfl)
 have h7 := @run_callFunc_extern Tryz.prog 49 _ (ReflectliteValue.methodAny (ReflectliteValue.valueError "reflectlite.Value.Type" 0) (fun t _ _ _ => ReflectliteType.toType t)) Tryz.func49 (by kernel_rfl) (by kernel_rfl) (by kernel_rfl) (by kernel_rfl)
 have h8 := @run_callFunc_extern Tryz.prog 50 _ (ReflectliteValue.method (ReflectliteValue.valueError "reflectlite.Value.IsNil" 0) ReflectliteValue.isNil) Tryz.func50 (by kernel_rfl) (by kernel_rfl) (by kernel_rfl) (by kernel_rfl)
 have h27:=@run_callFunc_extern Tryz.prog 170 _ (ReflectliteType.abiMethod fun t=>do pure (.int .u8 (← Rtype.kind t))) Tryz.func170 (by kernel_rfl) (by kernel_rfl) (by kernel_rfl) (by kernel_rfl)
 have h37:=@run_callFunc_extern Tryz.prog 181 _ (ReflectliteType.method ReflectliteType.elem) Tryz.func181 (by kernel_rfl) (by kernel_rfl) (by kernel_rfl) (by kernel_rfl)
 have h38 := @run_callFunc_extern Tryz.prog 182 _ (ReflectliteType.relation "Implements" ReflectliteType.implements_) Tryz.func182 (by kernel_rfl) (by kernel_rfl) (by kernel_rfl) (by kernel_rfl)
 have h10:=@run_callFunc_extern Tryz.prog 73 _ ReflectliteType.typeOf Tryz.func73 (by kernel_rfl) (by kernel_rfl) (by kernel_rfl) (by kernel_rfl)
 have h35 := @run_callFunc_extern Tryz.prog 179 _ (ReflectliteType.relation "AssignableTo" ReflectliteType.assignableTo) Tryz.func179 (by kernel_rfl) (by kernel_rfl) (by kernel_rfl) (by kernel_rfl)
 have h11 := @run_callFunc_extern Tryz.prog 75 _ (ReflectliteValue.method (ReflectliteValue.valueError "reflectlite.Value.Elem" 0) ReflectliteValue.elem) Tryz.func75 (by kernel_rfl) (by kernel_rfl) (by kernel_rfl) (by kernel_rfl)
 have h12:=@run_callFunc_extern Tryz.prog 76 _ ReflectliteValue.set Tryz.func76 (by kernel_rfl) (by kernel_rfl) (by kernel_rfl) (by kernel_rfl)
 have tO:=asTypeOfR
 have mA:=asMethAssign
 have a25:=asAssignR
 have v25:=asValueR c y
 have f6:=asValueP
 have f7:=asTypeP
 have mK:=asMethKind
 have mE:=asMethElem
 have mI:=asMethImpl
 have k27:=asKindP
 have k25:=asKindR
 have e27:=asElemP
 have i25:=asImplR
 have hlt:4<w.heap.size:=World.block_lt_of_cell? w ⟨4,0,none⟩ hg
 have htl:t<w.heap.size:=World.block_lt_of_cell? w ⟨t,0,none⟩ h0
 obtain⟨wa,hwa⟩:∃ W,W=w.alloc (.cells #[.pointer (some ⟨t,0,none⟩)] 61):=⟨_,rfl⟩
 obtain⟨wb,hwb⟩:∃ W,W=wa.alloc (.cells #[.pointer (some ⟨7,61,none⟩),.pointer (some ⟨w.heap.size,0,none⟩),.int .u64 150] 90):=⟨_,rfl⟩
 obtain⟨wc,hwc⟩:∃ W,W=wb.alloc (.cells #[.pointer (some ⟨7,61,none⟩),.pointer (some ⟨w.heap.size,0,none⟩),.int .u64 150] 90):=⟨_,rfl⟩
 obtain⟨wd,hwd⟩:∃ W,W=wc.alloc (.cells #[c,y] 59):=⟨_,rfl⟩
 have sa:wa.heap.size=w.heap.size+1:=by rw[hwa];simp
 have sb:wb.heap.size=w.heap.size+1+1:=by rw[hwb];simp[sa]
 have sc:wc.heap.size=w.heap.size+1+1+1:=by rw[hwc];simp[sb]
 have pa:wa.cell? ⟨w.heap.size,0,none⟩=some (.pointer (some ⟨t,0,none⟩)):=by rw[hwa];simp
 have pb:wb.cell? ⟨w.heap.size,0,none⟩=some (.pointer (some ⟨t,0,none⟩)):=by rw[hwb,World.cell?_alloc_lt _ _ ⟨w.heap.size,0,none⟩ (by simp[sa])];exact pa
 have pc:wc.cell? ⟨w.heap.size,0,none⟩=some (.pointer (some ⟨t,0,none⟩)):=by rw[hwc,World.cell?_alloc_lt _ _ ⟨w.heap.size,0,none⟩ (by simp[sb];omega)];exact pb
 have gb:wb.cell? ⟨4,0,none⟩=some (.iface 132 (.agg #[.pointer (some ⟨7,54,none⟩)])):=by
  rw[hwb,World.cell?_alloc_lt _ _ ⟨4,0,none⟩ (by simp[sa];omega),hwa,World.cell?_alloc_lt _ _ ⟨4,0,none⟩ hlt];exact hg
 have old:∀ i,wd.cell? ⟨t,i,none⟩=w.cell? ⟨t,i,none⟩∧wd.frozen? ⟨t,i,none⟩=w.frozen? ⟨t,i,none⟩:=fun i=>by
  constructor
  · rw[hwd,World.cell?_alloc_lt _ _ ⟨t,i,none⟩ (by simp[sc];omega),hwc,World.cell?_alloc_lt _ _ ⟨t,i,none⟩ (by simp[sb];omega),hwb,World.cell?_alloc_lt _ _ ⟨t,i,none⟩ (by simp[sa];omega),hwa,World.cell?_alloc_lt _ _ ⟨t,i,none⟩ htl]
  · rw[hwd,World.frozen?_alloc_old _ _ ⟨t,i,none⟩ (by simp[sc];omega),hwc,World.frozen?_alloc_old _ _ ⟨t,i,none⟩ (by simp[sb];omega),hwb,World.frozen?_alloc_old _ _ ⟨t,i,none⟩ (by simp[sa];omega),hwa,World.frozen?_alloc_old _ _ ⟨t,i,none⟩ (Nat.ne_of_lt htl)]
 have n8:=asIsNilP ⟨w.heap.size,0,none⟩ ⟨t,0,none⟩ wb pb
 have el:=asElemVP ⟨w.heap.size,0,none⟩ ⟨t,0,none⟩ wc pc
 have hb:wd.heap[wc.heap.size]? = some (.cells #[c,y] 59 (0,0)):=by rw[hwd];exact heap_alloc_new wc _
 rw[sc] at hb
 have st:=asSetR t (w.heap.size+1+1+1) c y o0 o1 wd hb ((old 0).1.trans h0) ((old 1).1.trans h1) ((old 0).2.trans f0) ((old 1).2.trans f1) hc hy
 clear old hb pa pb pc
 rw[hwd,hwc,hwb,hwa] at st
 rw[hwc,hwb,hwa] at el
 rw[hwb,hwa] at n8 gb
 clear hwd hwc hwb hwa sa sb sc
 go_enter Tryz.func27,Tryz.ntmps27
 go_wp2
 refine wp_loop_rounds 1 ?_
 rw[rounds_succ]
 go_wp2
 go_ret
 exact⟨rfl,rfl⟩
end Go.Proofs.YtllmclmcncolcaaGreatDoor
