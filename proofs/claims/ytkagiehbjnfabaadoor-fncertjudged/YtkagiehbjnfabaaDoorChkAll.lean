/-
 Texts that are laid as one: MathZ, SNum, Chk.
-/
import Derived.Test.YtkagiehbjnfabaaDoorMathAll
import Derived.Test.YtkagiehbjnfabaaDoorWrap
import Derived.Test.YtkagiehbjnfabaaDoorIDigs
import Derived.Test.YtkagiehbjnfabaaDoorSChain
namespace Go.Proofs.YtkagiehbjnfabaaDoor
open Go.RowKit
set_option linter.unusedVariables false
theorem bigB_succ (n k:Nat):bigB n (k+1)=bigB (n / 256) k ++ [UInt8.ofNat n]:=by
 simp only[bigB,List.range_succ,List.map_append,List.map_cons,List.map_nil]
 have e:n / 2 ^ (8*(k+1 - 1 - k))=n:=by simp
 rw[e]
 congr 1
 refine List.map_congr_left fun j hj=>?_
 have hj':=List.mem_range.1 hj
 have e2:8*(k+1 - 1 - j)=8+8*(k - 1 - j):=by omega
 rw[e2,Nat.pow_add,←Nat.div_div_eq_div_mul]
theorem dropZ_bigB : ∀ (k n : Nat), n < 256 ^ k → (bigB n k).dropWhile (· == 0) = numB k n
 | 0,n,h=>rfl
 | k + 1, n, h => by
   have ih:=dropZ_bigB k (n / 256) (by rw[Nat.pow_succ] at h;omega)
   rw[bigB_succ,List.dropWhile_append,ih]
   by_cases h0:n=0
   · subst h0
     simp[numB_zero]
   · rw [numB, if_neg h0]
     by_cases h1:n / 256=0
     · rw[h1,numB_zero]
       have hb:UInt8.ofNat n≠0:=fun e=>by
        have:=congrArg UInt8.toNat e
        simp at this
        omega
       simp[hb]
     · have hne:(numB k (n / 256)).isEmpty=false:=by
        cases k with
        | zero=>simp at h;omega
        | succ k=>rw[numB,if_neg h1];simp
       simp[hne]
theorem dropZ_zero (r:List UInt8):(0 :: r).dropWhile (· == 0)=r.dropWhile (· == 0):=by simp
theorem dropZ_stop (a:UInt8) (r:List UInt8) (h:a≠0):(a :: r).dropWhile (· == 0)=a :: r:=by simp[h]
theorem numB_len:∀ (f n:Nat),(numB f n).length≤f
 | 0,n=>by simp[numB]
 | f + 1, n => by
   rw[numB]
   split
   · simp
   · have:=numB_len f (n / 256);simp;omega
set_option maxRecDepth 100000 in
set_option maxHeartbeats 400000 in
theorem spec_l1Num (n:Nat) (w:World) (hn:n≤1000000000000) :
 Calls Tryd.prog 41 #[.int .i64 n] w fun e w'=>e=.returned (.string ⟨(numB 8 n).toArray⟩)∧Below w.heap.size w w':=by
 have hcv:(IntKind.u64).wrap (n:Int)=(n:Int):=by simp[IntKind.wrap,IntKind.signed,IntKind.bits];omega
 have HS:(bigB n 8).dropWhile (· == 0)=numB 8 n:=dropZ_bigB 8 n (by omega)
 have HZ:=bigB_length n 8
 go_enter Tryd.func41,Tryd.ntmps41
 go_wp2_with fail
 refine (spec_l1Big n 8 _ (by omega) (by omega)).mono ?_
 rintro e w1 ⟨rfl,hb1⟩
 go_wp2
 go_loop [3] (fun v=>∃ l:List UInt8,v=.string ⟨l.toArray⟩∧l.length≤8∧Hid (l.dropWhile (· == 0)=numB 8 n)) (fun v=>match v with | .string s=>s.size | _=>0)
 case atStart=>exact⟨_,rfl,by rw[HZ];omega,HS⟩
 case round =>
  obtain⟨l,rfl,hl,HL⟩:=hrel
  clear HS HZ
  match l,hl,HL with
  | [], hl, HL =>
    go_wp2
    go_ret
    exact⟨ret_string (by rw[←HL.out];rfl),hb1⟩
  | a :: r, hl, HL =>
    by_cases ha:a=0
    · subst ha
      go_wp2
      go_round
      case rel=>exact⟨r,congrArg Value.string (ba_tail (0 :: r)),by simp at hl ⊢;omega,by rw[Hid,←HL.out,dropZ_zero]⟩
      case measure=>simp[ByteArray.size]
    · have ha':((((ByteArray.mk (a :: r).toArray)[0]'(by simp[ByteArray.size])).toNat:Int) == 0)=false:=by
       show ((a.toNat:Int) == 0)=false
       simp only[beq_eq_false_iff_ne,ne_eq]
       intro h
       exact ha (UInt8.toNat_inj.1 (by simpa using h))
      have HR:Hid (a :: r=numB 8 n):=by rw[Hid,←HL.out];exact (dropZ_stop a r ha).symm
      go_wp2
      go_ret
      exact⟨ret_string HR.out,hb1⟩
def tCheck:List UInt8:=[99,104,101,99,107,112,111,105,110,116]
def chkL (n:Nat) (r:List UInt8):List UInt8:=tagL tCheck [numB 8 n,r]
theorem chkL_len (n:Nat) (r:List UInt8) (h:r.length=32):(chkL n r).length=32:=tagL_len _ _ (by simp) (by have:=numB_len 8 n;simp[tCheck,h];omega)
set_option maxRecDepth 100000 in
set_option maxHeartbeats 400000 in
theorem impl_check (n:Nat) (r:List UInt8) (w:World) (hn:n≤1000000000000) (hr:r.length=32) (hT:Tab w) :
 Calls Tryd.prog 19 #[.int .i64 (n:Int),.string ⟨r.toArray⟩] w fun e w'=>e=.returned (.tuple #[.string ⟨(chkL n r).toArray⟩,.bool true])∧Below w.heap.size w w':=by
 have HT:Hid (Tab w):=hT
 have hr':(r.length:Int)=32:=by omega
 have hn0:¬ (n:Int)<0:=by omega
 have hn1:(n:Int)≤1000000000000:=by omega
 have K1:=impl_numberText n w (by omega)
 have K2:=fun W hW=>itag2 tCheck (numB 8 n) r W (by decide) (by have:=numB_len 8 n;omega) hW
 have HE:Hid (chkL n r=tagL tCheck [numB 8 n,r]):=rfl
 rw[←HE.out] at K2
 obtain⟨y,hy⟩:∃ y,y=chkL n r:=⟨_,rfl⟩
 rw[←hy] at K2 ⊢
 obtain⟨p,hp⟩:∃ p,p=numB 8 n:=⟨_,rfl⟩
 rw[←hp] at K1 K2
 clear hT HE hy hp
 go_enter Tryd.func19,Tryd.ntmps19
 go_wp2_with fail
 refine K1.mono ?_
 rintro e w1 ⟨rfl,b1⟩
 go_wp2_with fail
 refine (K2 w1 (HT.out.later b1)).mono ?_
 rintro e w2 ⟨rfl,b2⟩
 have B2:=b1.trans (b2.mono b1.size)
 go_wp2
 go_ret2
 exact⟨rfl,B2⟩
set_option maxRecDepth 100000 in
set_option maxHeartbeats 400000 in
theorem impl_check_no (n:Int) (r:List UInt8) (w:World) (hl:r.length≤1048576) (h:¬ (0≤n∧n≤1000000000000∧r.length=32)) :
 Calls Tryd.prog 19 #[.int .i64 n,.string ⟨r.toArray⟩] w fun e w'=>e=.returned (.tuple #[.string ⟨#[]⟩,.bool false])∧w'=w:=by
 by_cases h0:0≤n
 · by_cases h1:n≤1000000000000
   · have hr':¬ (r.length:Int)=32:=fun e=>h ⟨h0,h1,by omega⟩
     have hr2:((r.length:Int) != 32)=true:=by simp;omega
     have hr3:((r.length:Int) == 32)=false:=by simp;omega
     clear h
     go_enter Tryd.func19,Tryd.ntmps19
     go_wp2
     go_ret2
     exact⟨rfl,rfl⟩
   · clear h
     go_enter Tryd.func19,Tryd.ntmps19
     go_wp2
     go_ret2
     exact⟨rfl,rfl⟩
 · clear h
   go_enter Tryd.func19,Tryd.ntmps19
   go_wp2
   go_ret2
   exact⟨rfl,rfl⟩
set_option maxRecDepth 100000 in
set_option maxHeartbeats 400000 in
theorem spec_check (n:Nat) (r:List UInt8) (w:World) (hn:n≤1000000000000) (hr:r.length=32) :
 Calls Tryd.prog 30 #[.int .i64 (n:Int),.string ⟨r.toArray⟩] w fun e w'=>e=.returned (.tuple #[.string ⟨(chkL n r).toArray⟩,.bool true])∧Below w.heap.size w w':=by
 have hr':(r.length:Int)=32:=by omega
 have K0:=l1In_yes (n:Int) 0 1000000000000 w (by omega)
 have K1:=spec_l1Num n w (by omega)
 have K2:=fun W=>stag2 tCheck (numB 8 n) r W (by decide) (by have:=numB_len 8 n;omega)
 have HE:Hid (chkL n r=tagL tCheck [numB 8 n,r]):=rfl
 rw[←HE.out] at K2
 obtain⟨y,hy⟩:∃ y,y=chkL n r:=⟨_,rfl⟩
 rw[←hy] at K2 ⊢
 obtain⟨p,hp⟩:∃ p,p=numB 8 n:=⟨_,rfl⟩
 rw[←hp] at K1 K2
 clear HE hy hp
 go_enter Tryd.func30,Tryd.ntmps30
 go_wp2_with fail
 refine K0.mono ?_
 rintro e w0 ⟨rfl,rfl⟩
 go_wp2_with fail
 refine K1.mono ?_
 rintro e w1 ⟨rfl,b1⟩
 go_wp2_with fail
 refine (K2 w1).mono ?_
 rintro e w2 ⟨rfl,b2⟩
 have B2:=b1.trans (b2.mono b1.size)
 go_wp2
 go_ret2
 exact⟨rfl,B2⟩
set_option maxRecDepth 100000 in
set_option maxHeartbeats 400000 in
theorem spec_check_no (n:Int) (r:List UInt8) (w:World) (hl:r.length≤1048576) (h:¬ (0≤n∧n≤1000000000000∧r.length=32)) :
 Calls Tryd.prog 30 #[.int .i64 n,.string ⟨r.toArray⟩] w fun e w'=>e=.returned (.tuple #[.string ⟨#[]⟩,.bool false])∧w'=w:=by
 by_cases h0:0≤n∧n≤1000000000000
 · have hr':¬ (r.length:Int)=32:=fun e=>h ⟨h0.1,h0.2,by omega⟩
   have K0:=l1In_yes n 0 1000000000000 w h0
   clear h h0
   go_enter Tryd.func30,Tryd.ntmps30
   go_wp2_with fail
   refine K0.mono ?_
   rintro e w0 ⟨rfl,rfl⟩
   go_wp2
   go_ret2
   exact⟨rfl,rfl⟩
 · have K0:=l1In_no n 0 1000000000000 w h0
   clear h h0
   go_enter Tryd.func30,Tryd.ntmps30
   go_wp2_with fail
   refine K0.mono ?_
   rintro e w0 ⟨rfl,rfl⟩
   go_wp2
   go_ret2
   exact⟨rfl,rfl⟩
end Go.Proofs.YtkagiehbjnfabaaDoor
