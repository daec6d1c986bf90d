/-
 At every client, number and list of ops NextBatch answers as its model; it writes into no argument and keeps nothing of one; its answer owns its memory. No condition; the three sentinels are laid as the program's text lays them.
-/
import Derived.Test.YtbpgpmchnjbclaaDoorNbM
import Derived.Test.YtbpgpmchnjbclaaDoorNbH
import Derived.Test.YtbpgpmchnjbclaaDoorOpen9
import Derived.Test.YtbpgpmchnjbclaaDoorNbE
import Derived.Test.YtbpgpmchnjbclaaDoorSeatAll
import Derived.Test.YtbpgpmchnjbclaaDoorTie
import Derived.Test.YtbpgpmchnjbclaaDoorCards
import Derived.Deep.RegionHeld3
import Derived.ProofKit
import Derived.LaidMore
import Derived.OpenShut
import Derived.ShutString
import Derived.ChangeOld
import Derived.Below
import Derived.Stop.Joined
import Derived.Stop.LaidErr
import Derived.SevenTiedAt
import Derived.Lib.SmallJoins
namespace Go.Proofs.YtbpgpmchnjbclaaDoor.fnExactNextBatch
open Go.ChangeShapes Go.WideShapes Go.ChangeAt Go.RowKit
open Go.ChangeMaps (open_string shut_string)
set_option linter.unusedVariables false
def NewQ (W:World) (lo hi:Nat) (a:Option Addr) (xs:List Value):Prop:=NewR W lo a xs∧∀ g,xs≠[]→a=some ⟨g,0,none⟩→g<hi
theorem NewQ.later {W W':World} {lo hi:Nat} {a:Option Addr} {xs:List Value} (h:NewQ W lo hi a xs) (hb:Below W.heap.size W W'):NewQ W' lo hi a xs:=⟨h.1.later hb,h.2⟩
theorem NewQ.kept {W W':World} {lo hi:Nat} {a:Option Addr} {xs:List Value} {row:Option Nat} (h:NewQ W lo hi a xs) (hg:W.grownBy W' row) (hr:∀ g,lo≤g→g<hi→some g≠row):NewQ W' lo hi a xs:=by
 refine⟨?_,h.2⟩
 by_cases hx:xs=[]
 · exact .inl hx
 · exact h.1.kept hg (fun g h1 _ h3=>hr g h1 (h.2 g hx h3))
theorem newQ_of {W:World} {lo:Nat} {a:Option Addr} {xs:List Value} (h:NewR W lo a xs):NewQ W lo W.heap.size a xs:=⟨h,fun g he ha=>by
 rcases h with h | ⟨g',h0,_,h2,_⟩
 · exact absurd h he
 · rw[h0] at ha;cases ha;exact h2⟩
theorem newR_strs {W:World} {base:Nat} {a:Option Addr} {ls:List (List UInt8)} (h:NewR W base a (scells ls)):IsStrs W a ls:=by
 rcases h with h | ⟨g,h0,h1,h2,h3⟩
 · have:(scells ls).length=0:=by rw[h];rfl
   rw[scells_length] at this
   exact .inl (List.length_eq_zero_iff.1 this)
 · refine .inr ⟨g,0,h0,fun j hj=>?_⟩
   rw[Nat.zero_add]
   exact (h3 j (by rw[scells_length];exact hj)).trans (scells_at ls j hj)
theorem nbR_len (ks:List (List UInt8)) (sn nx id:Int) (os:List OpL):(nbR ks sn nx id os).1.length≤ks.length∧(nbR ks sn nx id os).2.2.2.2.2.1.length≤os.length:=by
 unfold nbR
 split
 · exact⟨Nat.le_refl _,Nat.le_refl _⟩
 · split
   · exact⟨Nat.zero_le _,Nat.zero_le _⟩
   · exact⟨Nat.le_refl _,Nat.zero_le _⟩
theorem below_of_grownN {w w':World} (h:w.grownBy w' none):Below w.heap.size w w':=⟨h.os,h.tape,h.output,h.size,fun k hk=>h.block k hk (by simp)⟩
theorem each_leN (ls:List (List UInt8)) (h:ls.length+ls.flatten.length≤1048576):∀ l∈ls,l.length≤1048576:=fun l hl=>by obtain⟨j,hj,rfl⟩:=List.getElem_of_mem hl;have:=each_le ls j hj;omega
set_option maxRecDepth 100000 in
set_option maxHeartbeats 8000000 in
theorem walk (a:Option Addr) (cap:Nat) (ls:List (List UInt8)) (s n id:Int) (b:Option Addr) (cb:Nat) (os:List OpL) (w:World) (e0 e1 e2:Addr) (hE:Errs w e0 e1 e2) (hl:ls.length≤9223372036854775807) (hm:∀ l∈ls,l.length≤9223372036854775807) (hs:IsStrs w a ls) (hl2:os.length≤9223372036854775807) (hm2:∀ p∈os,p.1.length≤9223372036854775807∧p.2.1.length≤9223372036854775807) (hs2:IsOps w b os) :
 Calls Tryd.prog 3 #[.agg #[.slice a ls.length cap,.int .i64 s,.int .i64 n],.int .i64 id,.slice b os.length cb] w fun e w'=>e=.returned (.bool true)∧Below w.heap.size w w':=by
 have HS:Hid (∀ W,Below w.heap.size w W→IsStrs W a ls):=fun W hW=>strs_later hs hW
 have HS2:Hid (∀ W,Below w.heap.size w W→IsOps W b os):=fun W hW=>hs2.later hW
 have HEE:Hid (∀ W,Below w.heap.size w W→Errs W e0 e1 e2):=fun W hW=>hE.later hW
 have Bz:Below w.heap.size w w:=Below.refl _ _
 have Xt1:Below w.heap.size w (w.alloc (.cells #[.slice a ls.length cap,.int .i64 s,.int .i64 n] 24)):=(Below.refl _ _).alloc (Nat.le_refl _) _
 have Bt2:Below w.heap.size w (w.alloc (.cells #[.slice a ls.length cap,.int .i64 s,.int .i64 n] 24)):=Bz.trans (Xt1.mono Bz.size)
 clear Bz
 clear Xt1
 have aCt1:Hid ((w.alloc (.cells #[.slice a ls.length cap,.int .i64 s,.int .i64 n] 24)).heap[w.heap.size]? = some (.cells #[.slice a ls.length cap,.int .i64 s,.int .i64 n] 24 (0,0))):=heap_alloc_new w _
 have KZ:=szClient_genN 1048576 (Nat.le_refl _) a cap ls s n (w.alloc (.cells #[.slice a ls.length cap,.int .i64 s,.int .i64 n] 24)) hl hm (HS.out _ Bt2)
 have HKZ2:Hid (∀ q W,q≤1048576→Below w.heap.size w W→_):=fun q W hq hW=>szOpS_genN q hq b cb os W hl2 hm2 (HS2.out W hW)
 clear hs hs2 hm hm2 hE
 obtain⟨aC0,aC1,aC2,_⟩:=cli_cells aCt1.out
 go_enter Tryd.func3,Tryd.ntmps3
 go_wp2_with fail
 refine KZ.mono ?_
 rintro e w1 ⟨he,b1⟩
 clear aC0 aC1 aC2
 have aCt3:Hid (w1.heap[w.heap.size]? = some (.cells #[.slice a ls.length cap,.int .i64 s,.int .i64 n] 24 (0,0))):=(b1.block (w.heap.size) (lt_of_block aCt1.out)).trans aCt1.out
 clear aCt1
 have Bt3:Below w.heap.size w w1:=Bt2.trans (b1.mono Bt2.size)
 clear Bt2
 clear KZ b1
 rcases he with rfl | ⟨hsz,n1,hn1,rfl⟩
 · go_wp2
   go_ret
   exact⟨rfl,Bt3⟩
 have hn10:(0:Int)≤(n1:Int):=by omega
 have KZ2:=HKZ2.out n1 w1 hn1 Bt3
 have HZ1:Hid (ls.length+ls.flatten.length≤1048576∧n1≤1048576):=⟨hsz,hn1⟩
 clear HKZ2 hsz hn1
 go_wp2_with fail
 refine KZ2.mono ?_
 rintro e w2 ⟨he,b2⟩
 have aCt4:Hid (w2.heap[w.heap.size]? = some (.cells #[.slice a ls.length cap,.int .i64 s,.int .i64 n] 24 (0,0))):=(b2.block (w.heap.size) (lt_of_block aCt3.out)).trans aCt3.out
 clear aCt3
 have Bt4:Below w.heap.size w w2:=Bt3.trans (b2.mono Bt3.size)
 clear Bt3
 clear KZ2 b2
 rcases he with rfl | ⟨hsz2,n2,hn2,rfl⟩
 · go_wp2
   go_ret
   exact⟨rfl,Bt4⟩
 have hn20:(0:Int)≤(n2:Int):=by omega
 have hln:ls.length≤1048576:=by have:=HZ1.out;omega
 have hln2:os.length≤1048576:=by have:=HZ1.out;omega
 have hmm:=each_leN ls HZ1.out.1
 have hmm2:=sizesO_le os (by have:=HZ1.out;omega:os.length+sizeO os≤1048576)
 have HK1':=fun (g h:Nat) W (h1:IsStrs W (some ⟨g,0,none⟩) ls) (h2:IsOps W (some ⟨h,0,none⟩) os)=>spec_nextBatch (some ⟨g,0,none⟩) ls.length ls s n id (some ⟨h,0,none⟩) os.length os W hln hmm (by simp) h1 hln2 hmm2 h2
 have HK2':=fun (g h:Nat) W (h1:IsStrs W (some ⟨g,0,none⟩) ls) (h2:IsOps W (some ⟨h,0,none⟩) os) (h3:Errs W e0 e1 e2)=>impl_nextBatch (some ⟨g,0,none⟩) ls.length ls s n id (some ⟨h,0,none⟩) os.length os W e0 e1 e2 h3 hln hmm (by simp) (.inr ⟨g,0,rfl⟩) h1 hln2 hmm2 (by simp) (.inr ⟨h,0,rfl⟩) h2
 have hr0:=nbR_len ls s n id os
 unfold MnPost at HK1'
 unfold NnPost at HK2'
 obtain⟨rr,hrr⟩:∃ x,x=nbR ls s n id os:=⟨_,rfl⟩
 rw[←hrr] at HK1' HK2' hr0
 clear hrr
 obtain⟨rk,rs,rn,rc,rm,ro,rb⟩:=rr
 have hrk:rk.length≤1048576:=Nat.le_trans hr0.1 hln
 have hro:ro.length≤1048576:=Nat.le_trans hr0.2 hln2
 have HK1:Hid (∀ (g h:Nat) W,IsStrs W (some ⟨g,0,none⟩) ls→IsOps W (some ⟨h,0,none⟩) os→Calls Tryd.prog 7 #[.agg #[.slice (some ⟨g,0,none⟩) ls.length ls.length,.int .i64 s,.int .i64 n],.int .i64 id,.slice (some ⟨h,0,none⟩) os.length os.length] W fun e w'=>∃ x1 xk1 x2 xk2,e=.returned (.tuple #[.agg #[.slice x1 rk.length xk1,.int .i64 rs,.int .i64 rn],.agg #[.int .i64 rc,.int .i64 rm,.slice x2 ro.length xk2],.bool rb])∧NewR w' W.heap.size x1 (scells rk)∧NewR w' W.heap.size x2 (ocells ro)∧Below W.heap.size W w'):=HK1'
 have HK2:Hid (∀ (g h:Nat) W,IsStrs W (some ⟨g,0,none⟩) ls→IsOps W (some ⟨h,0,none⟩) os→Errs W e0 e1 e2→Calls Tryd.prog 10 #[.agg #[.slice (some ⟨g,0,none⟩) ls.length ls.length,.int .i64 s,.int .i64 n],.int .i64 id,.slice (some ⟨h,0,none⟩) os.length os.length] W fun e w'=>∃ x1 xk1 x2 xk2,e=.returned (.tuple #[.agg #[.slice x1 rk.length xk1,.int .i64 rs,.int .i64 rn],.agg #[.int .i64 rc,.int .i64 rm,.slice x2 ro.length xk2],.bool rb])∧w'.ownsRow W.heap.size 9 1 (Value.slice x1 rk.length xk1) rk.length (scells rk)∧w'.ownsRow W.heap.size 55 3 (Value.slice x2 ro.length xk2) ro.length (ocells ro)∧(∀ q,(Value.slice x1 rk.length xk1).ownBlock=some q→(Value.slice x2 ro.length xk2).ownBlock≠some q)∧Below W.heap.size W w'):=HK2'
 have HTC:Hid (∀ W,Below w.heap.size w W→Calls Tryd.prog 8 #[.agg #[.slice a ls.length cap,.int .i64 s,.int .i64 n]] W fun e w'=>∃ g:Nat,e=.returned (.agg #[.slice (some ⟨g,0,none⟩) ls.length ls.length,.int .i64 s,.int .i64 n])∧w'.ownsRow W.heap.size 9 1 (Value.slice (some ⟨g,0,none⟩) ls.length ls.length) ls.length (scells ls)∧Below W.heap.size W w'):=fun W hW=>toClient_any a cap ls s n W hln (HS.out W hW)
 have HTO:Hid (∀ W,Below w.heap.size w W→Calls Tryd.prog 9 #[.slice b os.length cb] W fun e w'=>∃ g:Nat,e=.returned (.slice (some ⟨g,0,none⟩) os.length os.length)∧w'.ownsRow W.heap.size 55 3 (Value.slice (some ⟨g,0,none⟩) os.length os.length) os.length (ocells os)∧Below W.heap.size W w'):=fun W hW=>(toOpS_any b cb os W hln2 (HS2.out W hW)).mono fun e w' ⟨h1,h2,h3⟩=>⟨W.heap.size,h1,h2,h3⟩
 clear HK1' HK2' hr0 hmm hmm2 hsz2 hn2 HS HS2 hl hl2 HZ1
 obtain⟨aC0,aC1,aC2,_⟩:=cli_cells aCt4.out
 go_wp2_with fail
 clear aC0 aC1 aC2
 refine (HTC.out _ Bt4).mono ?_
 rintro e w3 ⟨gs,rfl,o9,b9⟩
 have aCt5:Hid (w3.heap[w.heap.size]? = some (.cells #[.slice a ls.length cap,.int .i64 s,.int .i64 n] 24 (0,0))):=(b9.block (w.heap.size) (lt_of_block aCt4.out)).trans aCt4.out
 clear aCt4
 have Bt5:Below w.heap.size w w3:=Bt4.trans (b9.mono Bt4.size)
 clear Bt4
 have S1w3:Hid (w3.ownsRow w2.heap.size 9 1 (Value.slice (some ⟨gs,0,none⟩) ls.length ls.length) ls.length (scells ls)):=o9
 have LS1:Hid (w2.heap.size≤gs∧gs<w3.heap.size):=o9.lt gs (by simp[Value.ownBlock])
 clear o9 b9
 go_wp2_with fail
 refine (HTO.out _ Bt5).mono ?_
 rintro e w4 ⟨ho,rfl,o9,b9⟩
 have aCt6:Hid (w4.heap[w.heap.size]? = some (.cells #[.slice a ls.length cap,.int .i64 s,.int .i64 n] 24 (0,0))):=(b9.block (w.heap.size) (lt_of_block aCt5.out)).trans aCt5.out
 clear aCt5
 have S1t6:Hid (w4.ownsRow w2.heap.size 9 1 (Value.slice (some ⟨gs,0,none⟩) ls.length ls.length) ls.length (scells ls)):=keptN1 S1w3.out b9
 clear S1w3
 have Bt6:Below w.heap.size w w4:=Bt5.trans (b9.mono Bt5.size)
 clear Bt5
 have S2w4:Hid (w4.ownsRow w3.heap.size 55 3 (Value.slice (some ⟨ho,0,none⟩) os.length os.length) os.length (ocells os)):=o9
 have LS2:Hid (w3.heap.size≤ho∧ho<w4.heap.size):=o9.lt ho (by simp[Value.ownBlock])
 clear o9 b9
 go_wp2_with fail
 refine (HK1.out gs ho _ (strs_own S1t6.out).2.2 (isOps_own S2w4.out).2.2).mono ?_
 rintro e w5 ⟨y1,yk1,y2,yk2,rfl,n1,n2,b9⟩
 have aCt7:Hid (w5.heap[w.heap.size]? = some (.cells #[.slice a ls.length cap,.int .i64 s,.int .i64 n] 24 (0,0))):=(b9.block (w.heap.size) (lt_of_block aCt6.out)).trans aCt6.out
 clear aCt6
 have S1t7:Hid (w5.ownsRow w2.heap.size 9 1 (Value.slice (some ⟨gs,0,none⟩) ls.length ls.length) ls.length (scells ls)):=keptN1 S1t6.out b9
 clear S1t6
 have S2t7:Hid (w5.ownsRow w3.heap.size 55 3 (Value.slice (some ⟨ho,0,none⟩) os.length os.length) os.length (ocells os)):=keptN3 S2w4.out b9
 clear S2w4
 have Bt7:Below w.heap.size w w5:=Bt6.trans (b9.mono Bt6.size)
 clear Bt6
 have N1w5:Hid (NewQ w5 w4.heap.size w5.heap.size y1 (scells rk)):=newQ_of n1
 have N2w5:Hid (NewQ w5 w4.heap.size w5.heap.size y2 (ocells ro)):=newQ_of n2
 have ZN:Hid (w4.heap.size≤w5.heap.size):=b9.size
 clear n1 n2 b9
 have Xt8:Below w5.heap.size w5 (w5.alloc (.cells #[.slice y1 rk.length yk1,.int .i64 rs,.int .i64 rn] 28)):=(Below.refl _ _).alloc (Nat.le_refl _) _
 have aCt9:Hid ((w5.alloc (.cells #[.slice y1 rk.length yk1,.int .i64 rs,.int .i64 rn] 28)).heap[w.heap.size]? = some (.cells #[.slice a ls.length cap,.int .i64 s,.int .i64 n] 24 (0,0))):=(Xt8.block (w.heap.size) (lt_of_block aCt7.out)).trans aCt7.out
 clear aCt7
 have S1t9:Hid ((w5.alloc (.cells #[.slice y1 rk.length yk1,.int .i64 rs,.int .i64 rn] 28)).ownsRow w2.heap.size 9 1 (Value.slice (some ⟨gs,0,none⟩) ls.length ls.length) ls.length (scells ls)):=keptN1 S1t7.out Xt8
 clear S1t7
 have S2t9:Hid ((w5.alloc (.cells #[.slice y1 rk.length yk1,.int .i64 rs,.int .i64 rn] 28)).ownsRow w3.heap.size 55 3 (Value.slice (some ⟨ho,0,none⟩) os.length os.length) os.length (ocells os)):=keptN3 S2t7.out Xt8
 clear S2t7
 have N1t9:Hid (NewQ (w5.alloc (.cells #[.slice y1 rk.length yk1,.int .i64 rs,.int .i64 rn] 28)) w4.heap.size w5.heap.size y1 (scells rk)):=N1w5.out.later Xt8
 clear N1w5
 have N2t9:Hid (NewQ (w5.alloc (.cells #[.slice y1 rk.length yk1,.int .i64 rs,.int .i64 rn] 28)) w4.heap.size w5.heap.size y2 (ocells ro)):=N2w5.out.later Xt8
 clear N2w5
 have Bt9:Below w.heap.size w (w5.alloc (.cells #[.slice y1 rk.length yk1,.int .i64 rs,.int .i64 rn] 28)):=Bt7.trans (Xt8.mono Bt7.size)
 clear Bt7
 clear Xt8
 have bwt8:Hid ((w5.alloc (.cells #[.slice y1 rk.length yk1,.int .i64 rs,.int .i64 rn] 28)).heap[w5.heap.size]? = some (.cells #[.slice y1 rk.length yk1,.int .i64 rs,.int .i64 rn] 28 (0,0))):=heap_alloc_new w5 _
 have Xt10:Below (w5.alloc (.cells #[.slice y1 rk.length yk1,.int .i64 rs,.int .i64 rn] 28)).heap.size (w5.alloc (.cells #[.slice y1 rk.length yk1,.int .i64 rs,.int .i64 rn] 28)) ((w5.alloc (.cells #[.slice y1 rk.length yk1,.int .i64 rs,.int .i64 rn] 28)).alloc (.cells #[.int .i64 rc,.int .i64 rm,.slice y2 ro.length yk2] 31)):=(Below.refl _ _).alloc (Nat.le_refl _) _
 have aCt11:Hid (((w5.alloc (.cells #[.slice y1 rk.length yk1,.int .i64 rs,.int .i64 rn] 28)).alloc (.cells #[.int .i64 rc,.int .i64 rm,.slice y2 ro.length yk2] 31)).heap[w.heap.size]? = some (.cells #[.slice a ls.length cap,.int .i64 s,.int .i64 n] 24 (0,0))):=(Xt10.block (w.heap.size) (lt_of_block aCt9.out)).trans aCt9.out
 clear aCt9
 have S1t11:Hid (((w5.alloc (.cells #[.slice y1 rk.length yk1,.int .i64 rs,.int .i64 rn] 28)).alloc (.cells #[.int .i64 rc,.int .i64 rm,.slice y2 ro.length yk2] 31)).ownsRow w2.heap.size 9 1 (Value.slice (some ⟨gs,0,none⟩) ls.length ls.length) ls.length (scells ls)):=keptN1 S1t9.out Xt10
 clear S1t9
 have S2t11:Hid (((w5.alloc (.cells #[.slice y1 rk.length yk1,.int .i64 rs,.int .i64 rn] 28)).alloc (.cells #[.int .i64 rc,.int .i64 rm,.slice y2 ro.length yk2] 31)).ownsRow w3.heap.size 55 3 (Value.slice (some ⟨ho,0,none⟩) os.length os.length) os.length (ocells os)):=keptN3 S2t9.out Xt10
 clear S2t9
 have N1t11:Hid (NewQ ((w5.alloc (.cells #[.slice y1 rk.length yk1,.int .i64 rs,.int .i64 rn] 28)).alloc (.cells #[.int .i64 rc,.int .i64 rm,.slice y2 ro.length yk2] 31)) w4.heap.size w5.heap.size y1 (scells rk)):=N1t9.out.later Xt10
 clear N1t9
 have N2t11:Hid (NewQ ((w5.alloc (.cells #[.slice y1 rk.length yk1,.int .i64 rs,.int .i64 rn] 28)).alloc (.cells #[.int .i64 rc,.int .i64 rm,.slice y2 ro.length yk2] 31)) w4.heap.size w5.heap.size y2 (ocells ro)):=N2t9.out.later Xt10
 clear N2t9
 have bwt11:Hid (((w5.alloc (.cells #[.slice y1 rk.length yk1,.int .i64 rs,.int .i64 rn] 28)).alloc (.cells #[.int .i64 rc,.int .i64 rm,.slice y2 ro.length yk2] 31)).heap[w5.heap.size]? = some (.cells #[.slice y1 rk.length yk1,.int .i64 rs,.int .i64 rn] 28 (0,0))):=(Xt10.block (w5.heap.size) (lt_of_block bwt8.out)).trans bwt8.out
 clear bwt8
 have Bt11:Below w.heap.size w ((w5.alloc (.cells #[.slice y1 rk.length yk1,.int .i64 rs,.int .i64 rn] 28)).alloc (.cells #[.int .i64 rc,.int .i64 rm,.slice y2 ro.length yk2] 31)):=Bt9.trans (Xt10.mono Bt9.size)
 clear Bt9
 clear Xt10
 have bvt10:Hid (((w5.alloc (.cells #[.slice y1 rk.length yk1,.int .i64 rs,.int .i64 rn] 28)).alloc (.cells #[.int .i64 rc,.int .i64 rm,.slice y2 ro.length yk2] 31)).heap[w5.heap.size+1]? = some (.cells #[.int .i64 rc,.int .i64 rm,.slice y2 ro.length yk2] 31 (0,0))):=alloc2_new _ _ _
 clear S1t11
 clear S2t11
 clear LS1 LS2
 obtain⟨aC0,aC1,aC2,_⟩:=cli_cells aCt11.out
 go_wp2_with fail
 clear aC0 aC1 aC2
 obtain⟨w6,hww6⟩:∃ W,W=((w5.alloc (.cells #[.slice y1 rk.length yk1,.int .i64 rs,.int .i64 rn] 28)).alloc (.cells #[.int .i64 rc,.int .i64 rm,.slice y2 ro.length yk2] 31)):=⟨_,rfl⟩
 rw[←hww6] at ⊢ Bt11 aCt11 N1t11 N2t11 bwt11 bvt10
 have Z6:Hid (w6.heap.size=w5.heap.size+2):=by rw[hww6,Hid];simp
 clear hww6
 have Z0:Hid (w.heap.size<w6.heap.size):=lt_of_block aCt11.out
 refine (HTC.out _ Bt11).mono ?_
 rintro e w7 ⟨gx,rfl,o9,b9⟩
 have aCt12:Hid (w7.heap[w.heap.size]? = some (.cells #[.slice a ls.length cap,.int .i64 s,.int .i64 n] 24 (0,0))):=(b9.block (w.heap.size) (lt_of_block aCt11.out)).trans aCt11.out
 clear aCt11
 have N1t12:Hid (NewQ w7 w4.heap.size w5.heap.size y1 (scells rk)):=N1t11.out.later b9
 clear N1t11
 have N2t12:Hid (NewQ w7 w4.heap.size w5.heap.size y2 (ocells ro)):=N2t11.out.later b9
 clear N2t11
 have bwt12:Hid (w7.heap[w5.heap.size]? = some (.cells #[.slice y1 rk.length yk1,.int .i64 rs,.int .i64 rn] 28 (0,0))):=(b9.block (w5.heap.size) (lt_of_block bwt11.out)).trans bwt11.out
 clear bwt11
 have bvt12:Hid (w7.heap[w5.heap.size+1]? = some (.cells #[.int .i64 rc,.int .i64 rm,.slice y2 ro.length yk2] 31 (0,0))):=(b9.block (w5.heap.size+1) (lt_of_block bvt10.out)).trans bvt10.out
 clear bvt10
 have Bt12:Below w.heap.size w w7:=Bt11.trans (b9.mono Bt11.size)
 clear Bt11
 have X1w7:Hid (w7.ownsRow w6.heap.size 9 1 (Value.slice (some ⟨gx,0,none⟩) ls.length ls.length) ls.length (scells ls)):=o9
 have LX1:Hid (w6.heap.size≤gx∧gx<w7.heap.size):=o9.lt gx (by simp[Value.ownBlock])
 clear o9 b9
 have Xt13:Below w7.heap.size w7 (w7.alloc (.cells #[.slice (some ⟨gx,0,none⟩) ls.length ls.length,.int .i64 s,.int .i64 n] 28)):=(Below.refl _ _).alloc (Nat.le_refl _) _
 have aCt14:Hid ((w7.alloc (.cells #[.slice (some ⟨gx,0,none⟩) ls.length ls.length,.int .i64 s,.int .i64 n] 28)).heap[w.heap.size]? = some (.cells #[.slice a ls.length cap,.int .i64 s,.int .i64 n] 24 (0,0))):=(Xt13.block (w.heap.size) (lt_of_block aCt12.out)).trans aCt12.out
 clear aCt12
 have N1t14:Hid (NewQ (w7.alloc (.cells #[.slice (some ⟨gx,0,none⟩) ls.length ls.length,.int .i64 s,.int .i64 n] 28)) w4.heap.size w5.heap.size y1 (scells rk)):=N1t12.out.later Xt13
 clear N1t12
 have N2t14:Hid (NewQ (w7.alloc (.cells #[.slice (some ⟨gx,0,none⟩) ls.length ls.length,.int .i64 s,.int .i64 n] 28)) w4.heap.size w5.heap.size y2 (ocells ro)):=N2t12.out.later Xt13
 clear N2t12
 have bwt14:Hid ((w7.alloc (.cells #[.slice (some ⟨gx,0,none⟩) ls.length ls.length,.int .i64 s,.int .i64 n] 28)).heap[w5.heap.size]? = some (.cells #[.slice y1 rk.length yk1,.int .i64 rs,.int .i64 rn] 28 (0,0))):=(Xt13.block (w5.heap.size) (lt_of_block bwt12.out)).trans bwt12.out
 clear bwt12
 have bvt14:Hid ((w7.alloc (.cells #[.slice (some ⟨gx,0,none⟩) ls.length ls.length,.int .i64 s,.int .i64 n] 28)).heap[w5.heap.size+1]? = some (.cells #[.int .i64 rc,.int .i64 rm,.slice y2 ro.length yk2] 31 (0,0))):=(Xt13.block (w5.heap.size+1) (lt_of_block bvt12.out)).trans bvt12.out
 clear bvt12
 have X1t14:Hid ((w7.alloc (.cells #[.slice (some ⟨gx,0,none⟩) ls.length ls.length,.int .i64 s,.int .i64 n] 28)).ownsRow w6.heap.size 9 1 (Value.slice (some ⟨gx,0,none⟩) ls.length ls.length) ls.length (scells ls)):=keptN1 X1w7.out Xt13
 clear X1w7
 have Bt14:Below w.heap.size w (w7.alloc (.cells #[.slice (some ⟨gx,0,none⟩) ls.length ls.length,.int .i64 s,.int .i64 n] 28)):=Bt12.trans (Xt13.mono Bt12.size)
 clear Bt12
 clear Xt13
 have bxt13:Hid ((w7.alloc (.cells #[.slice (some ⟨gx,0,none⟩) ls.length ls.length,.int .i64 s,.int .i64 n] 28)).heap[w7.heap.size]? = some (.cells #[.slice (some ⟨gx,0,none⟩) ls.length ls.length,.int .i64 s,.int .i64 n] 28 (0,0))):=heap_alloc_new w7 _
 go_wp2_with fail
 obtain⟨w8,hww8⟩:∃ W,W=(w7.alloc (.cells #[.slice (some ⟨gx,0,none⟩) ls.length ls.length,.int .i64 s,.int .i64 n] 28)):=⟨_,rfl⟩
 rw[←hww8] at ⊢ Bt14 aCt14 N1t14 N2t14 bwt14 bvt14 X1t14 bxt13
 have Z8:Hid (w8.heap.size=w7.heap.size+1):=by rw[hww8,Hid];simp
 clear hww8
 refine (HTO.out _ Bt14).mono ?_
 rintro e w9 ⟨hx,rfl,o9,b9⟩
 have aCt15:Hid (w9.heap[w.heap.size]? = some (.cells #[.slice a ls.length cap,.int .i64 s,.int .i64 n] 24 (0,0))):=(b9.block (w.heap.size) (lt_of_block aCt14.out)).trans aCt14.out
 clear aCt14
 have N1t15:Hid (NewQ w9 w4.heap.size w5.heap.size y1 (scells rk)):=N1t14.out.later b9
 clear N1t14
 have N2t15:Hid (NewQ w9 w4.heap.size w5.heap.size y2 (ocells ro)):=N2t14.out.later b9
 clear N2t14
 have bwt15:Hid (w9.heap[w5.heap.size]? = some (.cells #[.slice y1 rk.length yk1,.int .i64 rs,.int .i64 rn] 28 (0,0))):=(b9.block (w5.heap.size) (lt_of_block bwt14.out)).trans bwt14.out
 clear bwt14
 have bvt15:Hid (w9.heap[w5.heap.size+1]? = some (.cells #[.int .i64 rc,.int .i64 rm,.slice y2 ro.length yk2] 31 (0,0))):=(b9.block (w5.heap.size+1) (lt_of_block bvt14.out)).trans bvt14.out
 clear bvt14
 have X1t15:Hid (w9.ownsRow w6.heap.size 9 1 (Value.slice (some ⟨gx,0,none⟩) ls.length ls.length) ls.length (scells ls)):=keptN1 X1t14.out b9
 clear X1t14
 have bxt15:Hid (w9.heap[w7.heap.size]? = some (.cells #[.slice (some ⟨gx,0,none⟩) ls.length ls.length,.int .i64 s,.int .i64 n] 28 (0,0))):=(b9.block (w7.heap.size) (lt_of_block bxt13.out)).trans bxt13.out
 clear bxt13
 have Bt15:Below w.heap.size w w9:=Bt14.trans (b9.mono Bt14.size)
 clear Bt14
 have X2w9:Hid (w9.ownsRow w8.heap.size 55 3 (Value.slice (some ⟨hx,0,none⟩) os.length os.length) os.length (ocells os)):=o9
 have LX2:Hid (w8.heap.size≤hx∧hx<w9.heap.size):=o9.lt hx (by simp[Value.ownBlock])
 clear o9 b9
 obtain⟨bx0,bx1,bx2,_⟩:=cli_cells bxt15.out
 go_wp2_with fail
 refine (HK2.out gx hx _ (strs_own X1t15.out).2.2 (isOps_own X2w9.out).2.2 (HEE.out _ Bt15)).mono ?_
 rintro e wa ⟨h1,hk1,h2,hk2,rfl,n1,n2,hap,b9⟩
 have aCt16:Hid (wa.heap[w.heap.size]? = some (.cells #[.slice a ls.length cap,.int .i64 s,.int .i64 n] 24 (0,0))):=(b9.block (w.heap.size) (lt_of_block aCt15.out)).trans aCt15.out
 clear aCt15
 have N1t16:Hid (NewQ wa w4.heap.size w5.heap.size y1 (scells rk)):=N1t15.out.later b9
 clear N1t15
 have N2t16:Hid (NewQ wa w4.heap.size w5.heap.size y2 (ocells ro)):=N2t15.out.later b9
 clear N2t15
 have bwt16:Hid (wa.heap[w5.heap.size]? = some (.cells #[.slice y1 rk.length yk1,.int .i64 rs,.int .i64 rn] 28 (0,0))):=(b9.block (w5.heap.size) (lt_of_block bwt15.out)).trans bwt15.out
 clear bwt15
 have bvt16:Hid (wa.heap[w5.heap.size+1]? = some (.cells #[.int .i64 rc,.int .i64 rm,.slice y2 ro.length yk2] 31 (0,0))):=(b9.block (w5.heap.size+1) (lt_of_block bvt15.out)).trans bvt15.out
 clear bvt15
 have X1t16:Hid (wa.ownsRow w6.heap.size 9 1 (Value.slice (some ⟨gx,0,none⟩) ls.length ls.length) ls.length (scells ls)):=keptN1 X1t15.out b9
 clear X1t15
 have bxt16:Hid (wa.heap[w7.heap.size]? = some (.cells #[.slice (some ⟨gx,0,none⟩) ls.length ls.length,.int .i64 s,.int .i64 n] 28 (0,0))):=(b9.block (w7.heap.size) (lt_of_block bxt15.out)).trans bxt15.out
 clear bxt15
 have X2t16:Hid (wa.ownsRow w8.heap.size 55 3 (Value.slice (some ⟨hx,0,none⟩) os.length os.length) os.length (ocells os)):=keptN3 X2w9.out b9
 clear X2w9
 have Bt16:Below w.heap.size w wa:=Bt15.trans (b9.mono Bt15.size)
 clear Bt15
 have G1wa:Hid (wa.ownsRow w9.heap.size 9 1 (Value.slice h1 rk.length hk1) rk.length (scells rk)):=n1
 have LG1:Hid (∀ q,(Value.slice h1 rk.length hk1).ownBlock=some q→w9.heap.size≤q∧q<wa.heap.size):=fun q hq=>n1.lt q hq
 have G2wa:Hid (wa.ownsRow w9.heap.size 55 3 (Value.slice h2 ro.length hk2) ro.length (ocells ro)):=n2
 have LG2:Hid (∀ q,(Value.slice h2 ro.length hk2).ownBlock=some q→w9.heap.size≤q∧q<wa.heap.size):=fun q hq=>n2.lt q hq
 have APG:Hid (∀ q,(Value.slice h1 rk.length hk1).ownBlock=some q→(Value.slice h2 ro.length hk2).ownBlock≠some q):=hap
 have ZG:Hid (w9.heap.size≤wa.heap.size):=b9.size
 clear n1 n2 b9 hap
 have Xt17:Below wa.heap.size wa (wa.alloc (.cells #[.slice h1 rk.length hk1,.int .i64 rs,.int .i64 rn] 28)):=(Below.refl _ _).alloc (Nat.le_refl _) _
 have aCt18:Hid ((wa.alloc (.cells #[.slice h1 rk.length hk1,.int .i64 rs,.int .i64 rn] 28)).heap[w.heap.size]? = some (.cells #[.slice a ls.length cap,.int .i64 s,.int .i64 n] 24 (0,0))):=(Xt17.block (w.heap.size) (lt_of_block aCt16.out)).trans aCt16.out
 clear aCt16
 have N1t18:Hid (NewQ (wa.alloc (.cells #[.slice h1 rk.length hk1,.int .i64 rs,.int .i64 rn] 28)) w4.heap.size w5.heap.size y1 (scells rk)):=N1t16.out.later Xt17
 clear N1t16
 have N2t18:Hid (NewQ (wa.alloc (.cells #[.slice h1 rk.length hk1,.int .i64 rs,.int .i64 rn] 28)) w4.heap.size w5.heap.size y2 (ocells ro)):=N2t16.out.later Xt17
 clear N2t16
 have bwt18:Hid ((wa.alloc (.cells #[.slice h1 rk.length hk1,.int .i64 rs,.int .i64 rn] 28)).heap[w5.heap.size]? = some (.cells #[.slice y1 rk.length yk1,.int .i64 rs,.int .i64 rn] 28 (0,0))):=(Xt17.block (w5.heap.size) (lt_of_block bwt16.out)).trans bwt16.out
 clear bwt16
 have bvt18:Hid ((wa.alloc (.cells #[.slice h1 rk.length hk1,.int .i64 rs,.int .i64 rn] 28)).heap[w5.heap.size+1]? = some (.cells #[.int .i64 rc,.int .i64 rm,.slice y2 ro.length yk2] 31 (0,0))):=(Xt17.block (w5.heap.size+1) (lt_of_block bvt16.out)).trans bvt16.out
 clear bvt16
 have X1t18:Hid ((wa.alloc (.cells #[.slice h1 rk.length hk1,.int .i64 rs,.int .i64 rn] 28)).ownsRow w6.heap.size 9 1 (Value.slice (some ⟨gx,0,none⟩) ls.length ls.length) ls.length (scells ls)):=keptN1 X1t16.out Xt17
 clear X1t16
 have bxt18:Hid ((wa.alloc (.cells #[.slice h1 rk.length hk1,.int .i64 rs,.int .i64 rn] 28)).heap[w7.heap.size]? = some (.cells #[.slice (some ⟨gx,0,none⟩) ls.length ls.length,.int .i64 s,.int .i64 n] 28 (0,0))):=(Xt17.block (w7.heap.size) (lt_of_block bxt16.out)).trans bxt16.out
 clear bxt16
 have X2t18:Hid ((wa.alloc (.cells #[.slice h1 rk.length hk1,.int .i64 rs,.int .i64 rn] 28)).ownsRow w8.heap.size 55 3 (Value.slice (some ⟨hx,0,none⟩) os.length os.length) os.length (ocells os)):=keptN3 X2t16.out Xt17
 clear X2t16
 have G1t18:Hid ((wa.alloc (.cells #[.slice h1 rk.length hk1,.int .i64 rs,.int .i64 rn] 28)).ownsRow w9.heap.size 9 1 (Value.slice h1 rk.length hk1) rk.length (scells rk)):=keptN1 G1wa.out Xt17
 clear G1wa
 have G2t18:Hid ((wa.alloc (.cells #[.slice h1 rk.length hk1,.int .i64 rs,.int .i64 rn] 28)).ownsRow w9.heap.size 55 3 (Value.slice h2 ro.length hk2) ro.length (ocells ro)):=keptN3 G2wa.out Xt17
 clear G2wa
 have Bt18:Below w.heap.size w (wa.alloc (.cells #[.slice h1 rk.length hk1,.int .i64 rs,.int .i64 rn] 28)):=Bt16.trans (Xt17.mono Bt16.size)
 clear Bt16
 clear Xt17
 have bgt17:Hid ((wa.alloc (.cells #[.slice h1 rk.length hk1,.int .i64 rs,.int .i64 rn] 28)).heap[wa.heap.size]? = some (.cells #[.slice h1 rk.length hk1,.int .i64 rs,.int .i64 rn] 28 (0,0))):=heap_alloc_new wa _
 have Xt19:Below (wa.alloc (.cells #[.slice h1 rk.length hk1,.int .i64 rs,.int .i64 rn] 28)).heap.size (wa.alloc (.cells #[.slice h1 rk.length hk1,.int .i64 rs,.int .i64 rn] 28)) ((wa.alloc (.cells #[.slice h1 rk.length hk1,.int .i64 rs,.int .i64 rn] 28)).alloc (.cells #[.int .i64 rc,.int .i64 rm,.slice h2 ro.length hk2] 31)):=(Below.refl _ _).alloc (Nat.le_refl _) _
 have aCt20:Hid (((wa.alloc (.cells #[.slice h1 rk.length hk1,.int .i64 rs,.int .i64 rn] 28)).alloc (.cells #[.int .i64 rc,.int .i64 rm,.slice h2 ro.length hk2] 31)).heap[w.heap.size]? = some (.cells #[.slice a ls.length cap,.int .i64 s,.int .i64 n] 24 (0,0))):=(Xt19.block (w.heap.size) (lt_of_block aCt18.out)).trans aCt18.out
 clear aCt18
 have N1t20:Hid (NewQ ((wa.alloc (.cells #[.slice h1 rk.length hk1,.int .i64 rs,.int .i64 rn] 28)).alloc (.cells #[.int .i64 rc,.int .i64 rm,.slice h2 ro.length hk2] 31)) w4.heap.size w5.heap.size y1 (scells rk)):=N1t18.out.later Xt19
 clear N1t18
 have N2t20:Hid (NewQ ((wa.alloc (.cells #[.slice h1 rk.length hk1,.int .i64 rs,.int .i64 rn] 28)).alloc (.cells #[.int .i64 rc,.int .i64 rm,.slice h2 ro.length hk2] 31)) w4.heap.size w5.heap.size y2 (ocells ro)):=N2t18.out.later Xt19
 clear N2t18
 have bwt20:Hid (((wa.alloc (.cells #[.slice h1 rk.length hk1,.int .i64 rs,.int .i64 rn] 28)).alloc (.cells #[.int .i64 rc,.int .i64 rm,.slice h2 ro.length hk2] 31)).heap[w5.heap.size]? = some (.cells #[.slice y1 rk.length yk1,.int .i64 rs,.int .i64 rn] 28 (0,0))):=(Xt19.block (w5.heap.size) (lt_of_block bwt18.out)).trans bwt18.out
 clear bwt18
 have bvt20:Hid (((wa.alloc (.cells #[.slice h1 rk.length hk1,.int .i64 rs,.int .i64 rn] 28)).alloc (.cells #[.int .i64 rc,.int .i64 rm,.slice h2 ro.length hk2] 31)).heap[w5.heap.size+1]? = some (.cells #[.int .i64 rc,.int .i64 rm,.slice y2 ro.length yk2] 31 (0,0))):=(Xt19.block (w5.heap.size+1) (lt_of_block bvt18.out)).trans bvt18.out
 clear bvt18
 have X1t20:Hid (((wa.alloc (.cells #[.slice h1 rk.length hk1,.int .i64 rs,.int .i64 rn] 28)).alloc (.cells #[.int .i64 rc,.int .i64 rm,.slice h2 ro.length hk2] 31)).ownsRow w6.heap.size 9 1 (Value.slice (some ⟨gx,0,none⟩) ls.length ls.length) ls.length (scells ls)):=keptN1 X1t18.out Xt19
 clear X1t18
 have bxt20:Hid (((wa.alloc (.cells #[.slice h1 rk.length hk1,.int .i64 rs,.int .i64 rn] 28)).alloc (.cells #[.int .i64 rc,.int .i64 rm,.slice h2 ro.length hk2] 31)).heap[w7.heap.size]? = some (.cells #[.slice (some ⟨gx,0,none⟩) ls.length ls.length,.int .i64 s,.int .i64 n] 28 (0,0))):=(Xt19.block (w7.heap.size) (lt_of_block bxt18.out)).trans bxt18.out
 clear bxt18
 have X2t20:Hid (((wa.alloc (.cells #[.slice h1 rk.length hk1,.int .i64 rs,.int .i64 rn] 28)).alloc (.cells #[.int .i64 rc,.int .i64 rm,.slice h2 ro.length hk2] 31)).ownsRow w8.heap.size 55 3 (Value.slice (some ⟨hx,0,none⟩) os.length os.length) os.length (ocells os)):=keptN3 X2t18.out Xt19
 clear X2t18
 have G1t20:Hid (((wa.alloc (.cells #[.slice h1 rk.length hk1,.int .i64 rs,.int .i64 rn] 28)).alloc (.cells #[.int .i64 rc,.int .i64 rm,.slice h2 ro.length hk2] 31)).ownsRow w9.heap.size 9 1 (Value.slice h1 rk.length hk1) rk.length (scells rk)):=keptN1 G1t18.out Xt19
 clear G1t18
 have G2t20:Hid (((wa.alloc (.cells #[.slice h1 rk.length hk1,.int .i64 rs,.int .i64 rn] 28)).alloc (.cells #[.int .i64 rc,.int .i64 rm,.slice h2 ro.length hk2] 31)).ownsRow w9.heap.size 55 3 (Value.slice h2 ro.length hk2) ro.length (ocells ro)):=keptN3 G2t18.out Xt19
 clear G2t18
 have bgt20:Hid (((wa.alloc (.cells #[.slice h1 rk.length hk1,.int .i64 rs,.int .i64 rn] 28)).alloc (.cells #[.int .i64 rc,.int .i64 rm,.slice h2 ro.length hk2] 31)).heap[wa.heap.size]? = some (.cells #[.slice h1 rk.length hk1,.int .i64 rs,.int .i64 rn] 28 (0,0))):=(Xt19.block (wa.heap.size) (lt_of_block bgt17.out)).trans bgt17.out
 clear bgt17
 have Bt20:Below w.heap.size w ((wa.alloc (.cells #[.slice h1 rk.length hk1,.int .i64 rs,.int .i64 rn] 28)).alloc (.cells #[.int .i64 rc,.int .i64 rm,.slice h2 ro.length hk2] 31)):=Bt18.trans (Xt19.mono Bt18.size)
 clear Bt18
 clear Xt19
 have bht19:Hid (((wa.alloc (.cells #[.slice h1 rk.length hk1,.int .i64 rs,.int .i64 rn] 28)).alloc (.cells #[.int .i64 rc,.int .i64 rm,.slice h2 ro.length hk2] 31)).heap[wa.heap.size+1]? = some (.cells #[.int .i64 rc,.int .i64 rm,.slice h2 ro.length hk2] 31 (0,0))):=alloc2_new _ _ _
 clear bx0 bx1 bx2
 obtain⟨bg0,bg1,bg2,_⟩:=cli_cells bgt20.out
 obtain⟨bw0,bw1,bw2,_⟩:=cli_cells bwt20.out
 go_wp2_with fail
 clear bg0 bg1 bg2
 clear bw0 bw1 bw2
 obtain⟨wb,hwwb⟩:∃ W,W=((wa.alloc (.cells #[.slice h1 rk.length hk1,.int .i64 rs,.int .i64 rn] 28)).alloc (.cells #[.int .i64 rc,.int .i64 rm,.slice h2 ro.length hk2] 31)):=⟨_,rfl⟩
 rw[←hwwb] at ⊢ Bt20 aCt20 N1t20 N2t20 bwt20 bvt20 X1t20 bxt20 X2t20 G1t20 G2t20 bgt20 bht19
 have Zb:Hid (wb.heap.size=wa.heap.size+2):=by rw[hwwb,Hid];simp
 clear hwwb
 refine (eqClient_is _ _ _ _ rk rs rn _ (by omega) (strs_own G1t20.out).2.2 (newR_strs N1t20.out.1)).mono ?_
 rintro e wca ⟨rfl,b9⟩
 have aCt21:Hid (wca.heap[w.heap.size]? = some (.cells #[.slice a ls.length cap,.int .i64 s,.int .i64 n] 24 (0,0))):=(b9.block (w.heap.size) (lt_of_block aCt20.out)).trans aCt20.out
 clear aCt20
 have N1t21:Hid (NewQ wca w4.heap.size w5.heap.size y1 (scells rk)):=N1t20.out.later b9
 clear N1t20
 have N2t21:Hid (NewQ wca w4.heap.size w5.heap.size y2 (ocells ro)):=N2t20.out.later b9
 clear N2t20
 have bwt21:Hid (wca.heap[w5.heap.size]? = some (.cells #[.slice y1 rk.length yk1,.int .i64 rs,.int .i64 rn] 28 (0,0))):=(b9.block (w5.heap.size) (lt_of_block bwt20.out)).trans bwt20.out
 clear bwt20
 have bvt21:Hid (wca.heap[w5.heap.size+1]? = some (.cells #[.int .i64 rc,.int .i64 rm,.slice y2 ro.length yk2] 31 (0,0))):=(b9.block (w5.heap.size+1) (lt_of_block bvt20.out)).trans bvt20.out
 clear bvt20
 have X1t21:Hid (wca.ownsRow w6.heap.size 9 1 (Value.slice (some ⟨gx,0,none⟩) ls.length ls.length) ls.length (scells ls)):=keptN1 X1t20.out b9
 clear X1t20
 have bxt21:Hid (wca.heap[w7.heap.size]? = some (.cells #[.slice (some ⟨gx,0,none⟩) ls.length ls.length,.int .i64 s,.int .i64 n] 28 (0,0))):=(b9.block (w7.heap.size) (lt_of_block bxt20.out)).trans bxt20.out
 clear bxt20
 have X2t21:Hid (wca.ownsRow w8.heap.size 55 3 (Value.slice (some ⟨hx,0,none⟩) os.length os.length) os.length (ocells os)):=keptN3 X2t20.out b9
 clear X2t20
 have G1t21:Hid (wca.ownsRow w9.heap.size 9 1 (Value.slice h1 rk.length hk1) rk.length (scells rk)):=keptN1 G1t20.out b9
 clear G1t20
 have G2t21:Hid (wca.ownsRow w9.heap.size 55 3 (Value.slice h2 ro.length hk2) ro.length (ocells ro)):=keptN3 G2t20.out b9
 clear G2t20
 have bgt21:Hid (wca.heap[wa.heap.size]? = some (.cells #[.slice h1 rk.length hk1,.int .i64 rs,.int .i64 rn] 28 (0,0))):=(b9.block (wa.heap.size) (lt_of_block bgt20.out)).trans bgt20.out
 clear bgt20
 have bht21:Hid (wca.heap[wa.heap.size+1]? = some (.cells #[.int .i64 rc,.int .i64 rm,.slice h2 ro.length hk2] 31 (0,0))):=(b9.block (wa.heap.size+1) (lt_of_block bht19.out)).trans bht19.out
 clear bht19
 have Bt21:Below w.heap.size w wca:=Bt20.trans (b9.mono Bt20.size)
 clear Bt20
 clear b9
 obtain⟨bh0,bh1,bh2,_⟩:=cli_cells bht21.out
 obtain⟨bv0,bv1,bv2,_⟩:=cli_cells bvt21.out
 go_wp2_with fail
 refine (eqBatch_same rc rm _ _ _ _ ro _ (by omega) (isOps_own G2t21.out).2.2 N2t21.out.1.opsN).mono ?_
 rintro e wcb ⟨rfl,b9⟩
 clear bh0 bh1 bh2
 clear bv0 bv1 bv2
 have aCt22:Hid (wcb.heap[w.heap.size]? = some (.cells #[.slice a ls.length cap,.int .i64 s,.int .i64 n] 24 (0,0))):=(b9.block (w.heap.size) (lt_of_block aCt21.out)).trans aCt21.out
 clear aCt21
 have N1t22:Hid (NewQ wcb w4.heap.size w5.heap.size y1 (scells rk)):=N1t21.out.later b9
 clear N1t21
 have N2t22:Hid (NewQ wcb w4.heap.size w5.heap.size y2 (ocells ro)):=N2t21.out.later b9
 clear N2t21
 have bwt22:Hid (wcb.heap[w5.heap.size]? = some (.cells #[.slice y1 rk.length yk1,.int .i64 rs,.int .i64 rn] 28 (0,0))):=(b9.block (w5.heap.size) (lt_of_block bwt21.out)).trans bwt21.out
 clear bwt21
 have bvt22:Hid (wcb.heap[w5.heap.size+1]? = some (.cells #[.int .i64 rc,.int .i64 rm,.slice y2 ro.length yk2] 31 (0,0))):=(b9.block (w5.heap.size+1) (lt_of_block bvt21.out)).trans bvt21.out
 clear bvt21
 have X1t22:Hid (wcb.ownsRow w6.heap.size 9 1 (Value.slice (some ⟨gx,0,none⟩) ls.length ls.length) ls.length (scells ls)):=keptN1 X1t21.out b9
 clear X1t21
 have bxt22:Hid (wcb.heap[w7.heap.size]? = some (.cells #[.slice (some ⟨gx,0,none⟩) ls.length ls.length,.int .i64 s,.int .i64 n] 28 (0,0))):=(b9.block (w7.heap.size) (lt_of_block bxt21.out)).trans bxt21.out
 clear bxt21
 have X2t22:Hid (wcb.ownsRow w8.heap.size 55 3 (Value.slice (some ⟨hx,0,none⟩) os.length os.length) os.length (ocells os)):=keptN3 X2t21.out b9
 clear X2t21
 have G1t22:Hid (wcb.ownsRow w9.heap.size 9 1 (Value.slice h1 rk.length hk1) rk.length (scells rk)):=keptN1 G1t21.out b9
 clear G1t21
 have G2t22:Hid (wcb.ownsRow w9.heap.size 55 3 (Value.slice h2 ro.length hk2) ro.length (ocells ro)):=keptN3 G2t21.out b9
 clear G2t21
 have bgt22:Hid (wcb.heap[wa.heap.size]? = some (.cells #[.slice h1 rk.length hk1,.int .i64 rs,.int .i64 rn] 28 (0,0))):=(b9.block (wa.heap.size) (lt_of_block bgt21.out)).trans bgt21.out
 clear bgt21
 have bht22:Hid (wcb.heap[wa.heap.size+1]? = some (.cells #[.int .i64 rc,.int .i64 rm,.slice h2 ro.length hk2] 31 (0,0))):=(b9.block (wa.heap.size+1) (lt_of_block bht21.out)).trans bht21.out
 clear bht21
 have Bt22:Below w.heap.size w wcb:=Bt21.trans (b9.mono Bt21.size)
 clear Bt21
 clear b9
 have SB:Hid (∀ W,Below wcb.heap.size wcb W→W.cell? ⟨w.heap.size,0,none⟩=some (.slice a ls.length cap)∧W.cell? ⟨w.heap.size,1,none⟩=some (.int .i64 s)∧W.cell? ⟨w.heap.size,2,none⟩=some (.int .i64 n)∧W.cell? ⟨w7.heap.size,0,none⟩=some (.slice (some ⟨gx,0,none⟩) ls.length ls.length)∧W.cell? ⟨w7.heap.size,1,none⟩=some (.int .i64 s)∧W.cell? ⟨w7.heap.size,2,none⟩=some (.int .i64 n)):=fun W hW=>by
  obtain⟨u0,u1,u2,_⟩:=cli_cells ((hW.block _ (lt_of_block aCt22.out)).trans aCt22.out)
  obtain⟨v0,v1,v2,_⟩:=cli_cells ((hW.block _ (lt_of_block bxt22.out)).trans bxt22.out)
  exact⟨u0,u1,u2,v0,v1,v2⟩
 have BD:Below wcb.heap.size wcb wcb.drew:=⟨rfl,rfl,rfl,Nat.le_refl _,fun _ _=>rfl⟩
 have WD:Below w.heap.size w wcb.drew:=Bt22.trans (BD.mono Bt22.size)
 go_wp2
 go_region_held3 (fun w'=>w'.cell? ⟨w.heap.size,0,none⟩=some (.slice a ls.length cap)∧w'.cell? ⟨w.heap.size,1,none⟩=some (.int .i64 s)∧w'.cell? ⟨w.heap.size,2,none⟩=some (.int .i64 n)∧w'.cell? ⟨w7.heap.size,0,none⟩=some (.slice (some ⟨gx,0,none⟩) ls.length ls.length)∧w'.cell? ⟨w7.heap.size,1,none⟩=some (.int .i64 s)∧w'.cell? ⟨w7.heap.size,2,none⟩=some (.int .i64 n)) (first | with_reducible exact SB.out _ BC2 | with_reducible exact SB.out _ BC1 | with_reducible exact SB.out _ BD)
  (first
   | (go_at_call 8
      with_reducible refine (HTC.out wcb.drew WD).mono ?_
      rintro e wc1 ⟨v1,rfl,vo1,b7⟩
      have BC1:Below wcb.heap.size wcb wc1:=BD.trans (b7.mono BD.size)
      have J1:Hid (IsStrs wc1 (some ⟨gx,0,none⟩) ls∧IsStrs wc1 (some ⟨v1,0,none⟩) ls):=⟨(strs_own (keptN1 X1t22.out BC1)).2.2,(strs_own vo1).2.2⟩
      clear vo1 b7)
   | (go_at_call 11
      with_reducible refine (eqClient_is (some ⟨gx,0,none⟩) (some ⟨v1,0,none⟩) ls.length ls.length ls s n wc1 (by omega) J1.out.1 J1.out.2).mono ?_
      rintro e wc2 ⟨rfl,b8⟩
      have BC2:Below wcb.heap.size wcb wc2:=BC1.trans (b8.mono BC1.size)
      clear b8))
 all_goals clear SB BD WD J1
 all_goals
  have b9:=BC2
  clear BC1 BC2
  have aCt23:Hid (wc2.heap[w.heap.size]? = some (.cells #[.slice a ls.length cap,.int .i64 s,.int .i64 n] 24 (0,0))):=(b9.block (w.heap.size) (lt_of_block aCt22.out)).trans aCt22.out
  clear aCt22
  have N1t23:Hid (NewQ wc2 w4.heap.size w5.heap.size y1 (scells rk)):=N1t22.out.later b9
  clear N1t22
  have N2t23:Hid (NewQ wc2 w4.heap.size w5.heap.size y2 (ocells ro)):=N2t22.out.later b9
  clear N2t22
  have bwt23:Hid (wc2.heap[w5.heap.size]? = some (.cells #[.slice y1 rk.length yk1,.int .i64 rs,.int .i64 rn] 28 (0,0))):=(b9.block (w5.heap.size) (lt_of_block bwt22.out)).trans bwt22.out
  clear bwt22
  have bvt23:Hid (wc2.heap[w5.heap.size+1]? = some (.cells #[.int .i64 rc,.int .i64 rm,.slice y2 ro.length yk2] 31 (0,0))):=(b9.block (w5.heap.size+1) (lt_of_block bvt22.out)).trans bvt22.out
  clear bvt22
  have X1t23:Hid (wc2.ownsRow w6.heap.size 9 1 (Value.slice (some ⟨gx,0,none⟩) ls.length ls.length) ls.length (scells ls)):=keptN1 X1t22.out b9
  clear X1t22
  have bxt23:Hid (wc2.heap[w7.heap.size]? = some (.cells #[.slice (some ⟨gx,0,none⟩) ls.length ls.length,.int .i64 s,.int .i64 n] 28 (0,0))):=(b9.block (w7.heap.size) (lt_of_block bxt22.out)).trans bxt22.out
  clear bxt22
  have X2t23:Hid (wc2.ownsRow w8.heap.size 55 3 (Value.slice (some ⟨hx,0,none⟩) os.length os.length) os.length (ocells os)):=keptN3 X2t22.out b9
  clear X2t22
  have G1t23:Hid (wc2.ownsRow w9.heap.size 9 1 (Value.slice h1 rk.length hk1) rk.length (scells rk)):=keptN1 G1t22.out b9
  clear G1t22
  have G2t23:Hid (wc2.ownsRow w9.heap.size 55 3 (Value.slice h2 ro.length hk2) ro.length (ocells ro)):=keptN3 G2t22.out b9
  clear G2t22
  have bgt23:Hid (wc2.heap[wa.heap.size]? = some (.cells #[.slice h1 rk.length hk1,.int .i64 rs,.int .i64 rn] 28 (0,0))):=(b9.block (wa.heap.size) (lt_of_block bgt22.out)).trans bgt22.out
  clear bgt22
  have bht23:Hid (wc2.heap[wa.heap.size+1]? = some (.cells #[.int .i64 rc,.int .i64 rm,.slice h2 ro.length hk2] 31 (0,0))):=(b9.block (wa.heap.size+1) (lt_of_block bht22.out)).trans bht22.out
  clear bht22
  have Bt23:Below w.heap.size w wc2:=Bt22.trans (b9.mono Bt22.size)
  clear Bt22
  clear b9
  go_wp2_with fail
  refine (HTO.out _ Bt23).mono ?_
  rintro e wd ⟨hz,rfl,o9,b9⟩
  have aCt24:Hid (wd.heap[w.heap.size]? = some (.cells #[.slice a ls.length cap,.int .i64 s,.int .i64 n] 24 (0,0))):=(b9.block (w.heap.size) (lt_of_block aCt23.out)).trans aCt23.out
  clear aCt23
  have N1t24:Hid (NewQ wd w4.heap.size w5.heap.size y1 (scells rk)):=N1t23.out.later b9
  clear N1t23
  have N2t24:Hid (NewQ wd w4.heap.size w5.heap.size y2 (ocells ro)):=N2t23.out.later b9
  clear N2t23
  have bwt24:Hid (wd.heap[w5.heap.size]? = some (.cells #[.slice y1 rk.length yk1,.int .i64 rs,.int .i64 rn] 28 (0,0))):=(b9.block (w5.heap.size) (lt_of_block bwt23.out)).trans bwt23.out
  clear bwt23
  have bvt24:Hid (wd.heap[w5.heap.size+1]? = some (.cells #[.int .i64 rc,.int .i64 rm,.slice y2 ro.length yk2] 31 (0,0))):=(b9.block (w5.heap.size+1) (lt_of_block bvt23.out)).trans bvt23.out
  clear bvt23
  have X1t24:Hid (wd.ownsRow w6.heap.size 9 1 (Value.slice (some ⟨gx,0,none⟩) ls.length ls.length) ls.length (scells ls)):=keptN1 X1t23.out b9
  clear X1t23
  have bxt24:Hid (wd.heap[w7.heap.size]? = some (.cells #[.slice (some ⟨gx,0,none⟩) ls.length ls.length,.int .i64 s,.int .i64 n] 28 (0,0))):=(b9.block (w7.heap.size) (lt_of_block bxt23.out)).trans bxt23.out
  clear bxt23
  have X2t24:Hid (wd.ownsRow w8.heap.size 55 3 (Value.slice (some ⟨hx,0,none⟩) os.length os.length) os.length (ocells os)):=keptN3 X2t23.out b9
  clear X2t23
  have G1t24:Hid (wd.ownsRow w9.heap.size 9 1 (Value.slice h1 rk.length hk1) rk.length (scells rk)):=keptN1 G1t23.out b9
  clear G1t23
  have G2t24:Hid (wd.ownsRow w9.heap.size 55 3 (Value.slice h2 ro.length hk2) ro.length (ocells ro)):=keptN3 G2t23.out b9
  clear G2t23
  have bgt24:Hid (wd.heap[wa.heap.size]? = some (.cells #[.slice h1 rk.length hk1,.int .i64 rs,.int .i64 rn] 28 (0,0))):=(b9.block (wa.heap.size) (lt_of_block bgt23.out)).trans bgt23.out
  clear bgt23
  have bht24:Hid (wd.heap[wa.heap.size+1]? = some (.cells #[.int .i64 rc,.int .i64 rm,.slice h2 ro.length hk2] 31 (0,0))):=(b9.block (wa.heap.size+1) (lt_of_block bht23.out)).trans bht23.out
  clear bht23
  have Bt24:Below w.heap.size w wd:=Bt23.trans (b9.mono Bt23.size)
  clear Bt23
  have Y2wd:Hid (wd.ownsRow wc2.heap.size 55 3 (Value.slice (some ⟨hz,0,none⟩) os.length os.length) os.length (ocells os)):=o9
  have LY2:Hid (wc2.heap.size≤hz∧hz<wd.heap.size):=o9.lt hz (by simp[Value.ownBlock])
  clear o9 b9
  go_wp2_with fail
  refine (eqOpS_same os _ _ _ _ _ (by omega) (isOps_own X2t24.out).2.2 (isOps_own Y2wd.out).2.2).mono ?_
  rintro e we ⟨rfl,b9⟩
  have aCt25:Hid (we.heap[w.heap.size]? = some (.cells #[.slice a ls.length cap,.int .i64 s,.int .i64 n] 24 (0,0))):=(b9.block (w.heap.size) (lt_of_block aCt24.out)).trans aCt24.out
  clear aCt24
  have N1t25:Hid (NewQ we w4.heap.size w5.heap.size y1 (scells rk)):=N1t24.out.later b9
  clear N1t24
  have N2t25:Hid (NewQ we w4.heap.size w5.heap.size y2 (ocells ro)):=N2t24.out.later b9
  clear N2t24
  have bwt25:Hid (we.heap[w5.heap.size]? = some (.cells #[.slice y1 rk.length yk1,.int .i64 rs,.int .i64 rn] 28 (0,0))):=(b9.block (w5.heap.size) (lt_of_block bwt24.out)).trans bwt24.out
  clear bwt24
  have bvt25:Hid (we.heap[w5.heap.size+1]? = some (.cells #[.int .i64 rc,.int .i64 rm,.slice y2 ro.length yk2] 31 (0,0))):=(b9.block (w5.heap.size+1) (lt_of_block bvt24.out)).trans bvt24.out
  clear bvt24
  have X1t25:Hid (we.ownsRow w6.heap.size 9 1 (Value.slice (some ⟨gx,0,none⟩) ls.length ls.length) ls.length (scells ls)):=keptN1 X1t24.out b9
  clear X1t24
  have bxt25:Hid (we.heap[w7.heap.size]? = some (.cells #[.slice (some ⟨gx,0,none⟩) ls.length ls.length,.int .i64 s,.int .i64 n] 28 (0,0))):=(b9.block (w7.heap.size) (lt_of_block bxt24.out)).trans bxt24.out
  clear bxt24
  have X2t25:Hid (we.ownsRow w8.heap.size 55 3 (Value.slice (some ⟨hx,0,none⟩) os.length os.length) os.length (ocells os)):=keptN3 X2t24.out b9
  clear X2t24
  have G1t25:Hid (we.ownsRow w9.heap.size 9 1 (Value.slice h1 rk.length hk1) rk.length (scells rk)):=keptN1 G1t24.out b9
  clear G1t24
  have G2t25:Hid (we.ownsRow w9.heap.size 55 3 (Value.slice h2 ro.length hk2) ro.length (ocells ro)):=keptN3 G2t24.out b9
  clear G2t24
  have bgt25:Hid (we.heap[wa.heap.size]? = some (.cells #[.slice h1 rk.length hk1,.int .i64 rs,.int .i64 rn] 28 (0,0))):=(b9.block (wa.heap.size) (lt_of_block bgt24.out)).trans bgt24.out
  clear bgt24
  have bht25:Hid (we.heap[wa.heap.size+1]? = some (.cells #[.int .i64 rc,.int .i64 rm,.slice h2 ro.length hk2] 31 (0,0))):=(b9.block (wa.heap.size+1) (lt_of_block bht24.out)).trans bht24.out
  clear bht24
  have Y2t25:Hid (we.ownsRow wc2.heap.size 55 3 (Value.slice (some ⟨hz,0,none⟩) os.length os.length) os.length (ocells os)):=keptN3 Y2wd.out b9
  clear Y2wd
  have Bt25:Below w.heap.size w we:=Bt24.trans (b9.mono Bt24.size)
  clear Bt24
  clear Y2t25
  clear b9 LY2
  obtain⟨bx0,bx1,bx2,_⟩:=cli_cells bxt25.out
  have KM:=markClient_any ls s n (some ⟨gx,0,none⟩) ls.length ls.length _ 1 we (by omega) (by omega) (by omega) X1t25.out
  obtain⟨k1,hk1⟩:∃ k1:Nat,k1=1+ls.length:=⟨_,rfl⟩
  have HK9:Hid ((1:Int)+(ls.length:Int)=(k1:Int)):=by rw[Hid];omega
  have hk1b:k1≤3000000:=by omega
  have hk1p:0<k1:=by omega
  clear hk1
  go_wp2_with fail
  refine KM.mono ?_
  rintro e wm ⟨he,_,G1⟩
  rw[show ((1:Nat):Int)+(ls.length:Int)=(k1:Int) from HK9.out] at he
  subst he
  clear bx0 bx1 bx2
  clear X1t25
  clear bxt25
  have aCt26:Hid (wm.heap[w.heap.size]? = some (.cells #[.slice a ls.length cap,.int .i64 s,.int .i64 n] 24 (0,0))):=(G1.block (w.heap.size) (lt_of_block aCt25.out) (fun e=>by have hz6:=Z6.out;have hz8:=Z8.out;have hzb:=Zb.out;have hx1:=LX1.out;have hx2:=LX2.out;have hzg:=ZG.out;have hg1:=LG1.out;have hg2:=LG2.out;have hap:=APG.out;have hz0:=Z0.out;simp[Value.ownBlock] at e;omega)).trans aCt25.out
  clear aCt25
  have N1t26:Hid (NewQ wm w4.heap.size w5.heap.size y1 (scells rk)):=N1t25.out.kept G1 (fun q h1 h2 e=>by have hz6:=Z6.out;have hz8:=Z8.out;have hzb:=Zb.out;have hx1:=LX1.out;have hx2:=LX2.out;have hzg:=ZG.out;have hg1:=LG1.out;have hg2:=LG2.out;have hap:=APG.out;have hz0:=Z0.out;simp[Value.ownBlock] at e;omega)
  clear N1t25
  have N2t26:Hid (NewQ wm w4.heap.size w5.heap.size y2 (ocells ro)):=N2t25.out.kept G1 (fun q h1 h2 e=>by have hz6:=Z6.out;have hz8:=Z8.out;have hzb:=Zb.out;have hx1:=LX1.out;have hx2:=LX2.out;have hzg:=ZG.out;have hg1:=LG1.out;have hg2:=LG2.out;have hap:=APG.out;have hz0:=Z0.out;simp[Value.ownBlock] at e;omega)
  clear N2t25
  have bwt26:Hid (wm.heap[w5.heap.size]? = some (.cells #[.slice y1 rk.length yk1,.int .i64 rs,.int .i64 rn] 28 (0,0))):=(G1.block (w5.heap.size) (lt_of_block bwt25.out) (fun e=>by have hz6:=Z6.out;have hz8:=Z8.out;have hzb:=Zb.out;have hx1:=LX1.out;have hx2:=LX2.out;have hzg:=ZG.out;have hg1:=LG1.out;have hg2:=LG2.out;have hap:=APG.out;have hz0:=Z0.out;simp[Value.ownBlock] at e;omega)).trans bwt25.out
  clear bwt25
  have bvt26:Hid (wm.heap[w5.heap.size+1]? = some (.cells #[.int .i64 rc,.int .i64 rm,.slice y2 ro.length yk2] 31 (0,0))):=(G1.block (w5.heap.size+1) (lt_of_block bvt25.out) (fun e=>by have hz6:=Z6.out;have hz8:=Z8.out;have hzb:=Zb.out;have hx1:=LX1.out;have hx2:=LX2.out;have hzg:=ZG.out;have hg1:=LG1.out;have hg2:=LG2.out;have hap:=APG.out;have hz0:=Z0.out;simp[Value.ownBlock] at e;omega)).trans bvt25.out
  clear bvt25
  have X2t26:Hid (wm.ownsRow w8.heap.size 55 3 (Value.slice (some ⟨hx,0,none⟩) os.length os.length) os.length (ocells os)):=X2t25.out.kept G1 (by
   cases hv:(Value.slice (some ⟨hx,0,none⟩) os.length os.length).ownBlock with
   | none=>exact .inl rfl
   | some q=>exact .inr (fun e=>by have hz6:=Z6.out;have hz8:=Z8.out;have hzb:=Zb.out;have hx1:=LX1.out;have hx2:=LX2.out;have hzg:=ZG.out;have hg1:=LG1.out;have hg2:=LG2.out;have hap:=APG.out;have hz0:=Z0.out;simp[Value.ownBlock] at e hv;omega))
  clear X2t25
  have G1t26:Hid (wm.ownsRow w9.heap.size 9 1 (Value.slice h1 rk.length hk1) rk.length (scells rk)):=G1t25.out.kept G1 (by
   cases hv:(Value.slice h1 rk.length hk1).ownBlock with
   | none=>exact .inl rfl
   | some q=>exact .inr (fun e=>by have hz6:=Z6.out;have hz8:=Z8.out;have hzb:=Zb.out;have hx1:=LX1.out;have hx2:=LX2.out;have hzg:=ZG.out;have hg1:=LG1.out;have hg2:=LG2.out;have hap:=APG.out;have hz0:=Z0.out;simp[Value.ownBlock] at e;have:=hg1 q hv;omega))
  clear G1t25
  have G2t26:Hid (wm.ownsRow w9.heap.size 55 3 (Value.slice h2 ro.length hk2) ro.length (ocells ro)):=G2t25.out.kept G1 (by
   cases hv:(Value.slice h2 ro.length hk2).ownBlock with
   | none=>exact .inl rfl
   | some q=>exact .inr (fun e=>by have hz6:=Z6.out;have hz8:=Z8.out;have hzb:=Zb.out;have hx1:=LX1.out;have hx2:=LX2.out;have hzg:=ZG.out;have hg1:=LG1.out;have hg2:=LG2.out;have hap:=APG.out;have hz0:=Z0.out;simp[Value.ownBlock] at e;have:=hg2 q hv;omega))
  clear G2t25
  have bgt26:Hid (wm.heap[wa.heap.size]? = some (.cells #[.slice h1 rk.length hk1,.int .i64 rs,.int .i64 rn] 28 (0,0))):=(G1.block (wa.heap.size) (lt_of_block bgt25.out) (fun e=>by have hz6:=Z6.out;have hz8:=Z8.out;have hzb:=Zb.out;have hx1:=LX1.out;have hx2:=LX2.out;have hzg:=ZG.out;have hg1:=LG1.out;have hg2:=LG2.out;have hap:=APG.out;have hz0:=Z0.out;simp[Value.ownBlock] at e;omega)).trans bgt25.out
  clear bgt25
  have bht26:Hid (wm.heap[wa.heap.size+1]? = some (.cells #[.int .i64 rc,.int .i64 rm,.slice h2 ro.length hk2] 31 (0,0))):=(G1.block (wa.heap.size+1) (lt_of_block bht25.out) (fun e=>by have hz6:=Z6.out;have hz8:=Z8.out;have hzb:=Zb.out;have hx1:=LX1.out;have hx2:=LX2.out;have hzg:=ZG.out;have hg1:=LG1.out;have hg2:=LG2.out;have hap:=APG.out;have hz0:=Z0.out;simp[Value.ownBlock] at e;omega)).trans bht25.out
  clear bht25
  have Bt26:Below w.heap.size w wm:=Bt25.grown G1 Bt25.size (fun q hq=>by have hz6:=Z6.out;have hz8:=Z8.out;have hzb:=Zb.out;have hx1:=LX1.out;have hx2:=LX2.out;have hzg:=ZG.out;have hg1:=LG1.out;have hg2:=LG2.out;have hap:=APG.out;have hz0:=Z0.out;simp[Value.ownBlock] at hq;omega)
  clear Bt25
  clear KM G1 HK9
  have KM:=markOpS_any os (some ⟨hx,0,none⟩) os.length os.length _ k1 wm (by omega) hk1p (by omega) X2t26.out
  have hk0:¬ (k1:Int)+3*(os.length:Int)<0:=by omega
  have hkb:decide ((k1:Int)+3*(os.length:Int)<0)=false:=decide_eq_false hk0
  go_wp2_with fail
  refine KM.mono ?_
  rintro e wn ⟨he,_,G2⟩
  subst he
  clear X2t26
  have aCt27:Hid (wn.heap[w.heap.size]? = some (.cells #[.slice a ls.length cap,.int .i64 s,.int .i64 n] 24 (0,0))):=(G2.block (w.heap.size) (lt_of_block aCt26.out) (fun e=>by have hz6:=Z6.out;have hz8:=Z8.out;have hzb:=Zb.out;have hx1:=LX1.out;have hx2:=LX2.out;have hzg:=ZG.out;have hg1:=LG1.out;have hg2:=LG2.out;have hap:=APG.out;have hz0:=Z0.out;simp[Value.ownBlock] at e;omega)).trans aCt26.out
  clear aCt26
  have N1t27:Hid (NewQ wn w4.heap.size w5.heap.size y1 (scells rk)):=N1t26.out.kept G2 (fun q h1 h2 e=>by have hz6:=Z6.out;have hz8:=Z8.out;have hzb:=Zb.out;have hx1:=LX1.out;have hx2:=LX2.out;have hzg:=ZG.out;have hg1:=LG1.out;have hg2:=LG2.out;have hap:=APG.out;have hz0:=Z0.out;simp[Value.ownBlock] at e;omega)
  clear N1t26
  have N2t27:Hid (NewQ wn w4.heap.size w5.heap.size y2 (ocells ro)):=N2t26.out.kept G2 (fun q h1 h2 e=>by have hz6:=Z6.out;have hz8:=Z8.out;have hzb:=Zb.out;have hx1:=LX1.out;have hx2:=LX2.out;have hzg:=ZG.out;have hg1:=LG1.out;have hg2:=LG2.out;have hap:=APG.out;have hz0:=Z0.out;simp[Value.ownBlock] at e;omega)
  clear N2t26
  have bwt27:Hid (wn.heap[w5.heap.size]? = some (.cells #[.slice y1 rk.length yk1,.int .i64 rs,.int .i64 rn] 28 (0,0))):=(G2.block (w5.heap.size) (lt_of_block bwt26.out) (fun e=>by have hz6:=Z6.out;have hz8:=Z8.out;have hzb:=Zb.out;have hx1:=LX1.out;have hx2:=LX2.out;have hzg:=ZG.out;have hg1:=LG1.out;have hg2:=LG2.out;have hap:=APG.out;have hz0:=Z0.out;simp[Value.ownBlock] at e;omega)).trans bwt26.out
  clear bwt26
  have bvt27:Hid (wn.heap[w5.heap.size+1]? = some (.cells #[.int .i64 rc,.int .i64 rm,.slice y2 ro.length yk2] 31 (0,0))):=(G2.block (w5.heap.size+1) (lt_of_block bvt26.out) (fun e=>by have hz6:=Z6.out;have hz8:=Z8.out;have hzb:=Zb.out;have hx1:=LX1.out;have hx2:=LX2.out;have hzg:=ZG.out;have hg1:=LG1.out;have hg2:=LG2.out;have hap:=APG.out;have hz0:=Z0.out;simp[Value.ownBlock] at e;omega)).trans bvt26.out
  clear bvt26
  have G1t27:Hid (wn.ownsRow w9.heap.size 9 1 (Value.slice h1 rk.length hk1) rk.length (scells rk)):=G1t26.out.kept G2 (by
   cases hv:(Value.slice h1 rk.length hk1).ownBlock with
   | none=>exact .inl rfl
   | some q=>exact .inr (fun e=>by have hz6:=Z6.out;have hz8:=Z8.out;have hzb:=Zb.out;have hx1:=LX1.out;have hx2:=LX2.out;have hzg:=ZG.out;have hg1:=LG1.out;have hg2:=LG2.out;have hap:=APG.out;have hz0:=Z0.out;simp[Value.ownBlock] at e;have:=hg1 q hv;omega))
  clear G1t26
  have G2t27:Hid (wn.ownsRow w9.heap.size 55 3 (Value.slice h2 ro.length hk2) ro.length (ocells ro)):=G2t26.out.kept G2 (by
   cases hv:(Value.slice h2 ro.length hk2).ownBlock with
   | none=>exact .inl rfl
   | some q=>exact .inr (fun e=>by have hz6:=Z6.out;have hz8:=Z8.out;have hzb:=Zb.out;have hx1:=LX1.out;have hx2:=LX2.out;have hzg:=ZG.out;have hg1:=LG1.out;have hg2:=LG2.out;have hap:=APG.out;have hz0:=Z0.out;simp[Value.ownBlock] at e;have:=hg2 q hv;omega))
  clear G2t26
  have bgt27:Hid (wn.heap[wa.heap.size]? = some (.cells #[.slice h1 rk.length hk1,.int .i64 rs,.int .i64 rn] 28 (0,0))):=(G2.block (wa.heap.size) (lt_of_block bgt26.out) (fun e=>by have hz6:=Z6.out;have hz8:=Z8.out;have hzb:=Zb.out;have hx1:=LX1.out;have hx2:=LX2.out;have hzg:=ZG.out;have hg1:=LG1.out;have hg2:=LG2.out;have hap:=APG.out;have hz0:=Z0.out;simp[Value.ownBlock] at e;omega)).trans bgt26.out
  clear bgt26
  have bht27:Hid (wn.heap[wa.heap.size+1]? = some (.cells #[.int .i64 rc,.int .i64 rm,.slice h2 ro.length hk2] 31 (0,0))):=(G2.block (wa.heap.size+1) (lt_of_block bht26.out) (fun e=>by have hz6:=Z6.out;have hz8:=Z8.out;have hzb:=Zb.out;have hx1:=LX1.out;have hx2:=LX2.out;have hzg:=ZG.out;have hg1:=LG1.out;have hg2:=LG2.out;have hap:=APG.out;have hz0:=Z0.out;simp[Value.ownBlock] at e;omega)).trans bht26.out
  clear bht26
  have Bt27:Below w.heap.size w wn:=Bt26.grown G2 Bt26.size (fun q hq=>by have hz6:=Z6.out;have hz8:=Z8.out;have hzb:=Zb.out;have hx1:=LX1.out;have hx2:=LX2.out;have hzg:=ZG.out;have hg1:=LG1.out;have hg2:=LG2.out;have hap:=APG.out;have hz0:=Z0.out;simp[Value.ownBlock] at hq;omega)
  clear Bt26
  clear KM G2
  obtain⟨bg0,bg1,bg2,_⟩:=cli_cells bgt27.out
  obtain⟨bw0,bw1,bw2,_⟩:=cli_cells bwt27.out
  go_wp2_with fail
  refine (eqClient_is _ _ _ _ rk rs rn _ (by omega) (strs_own G1t27.out).2.2 (newR_strs N1t27.out.1)).mono ?_
  rintro e woa ⟨rfl,b9⟩
  clear bg0 bg1 bg2
  clear bw0 bw1 bw2
  have aCt28:Hid (woa.heap[w.heap.size]? = some (.cells #[.slice a ls.length cap,.int .i64 s,.int .i64 n] 24 (0,0))):=(b9.block (w.heap.size) (lt_of_block aCt27.out)).trans aCt27.out
  clear aCt27
  have N1t28:Hid (NewQ woa w4.heap.size w5.heap.size y1 (scells rk)):=N1t27.out.later b9
  clear N1t27
  have N2t28:Hid (NewQ woa w4.heap.size w5.heap.size y2 (ocells ro)):=N2t27.out.later b9
  clear N2t27
  have bwt28:Hid (woa.heap[w5.heap.size]? = some (.cells #[.slice y1 rk.length yk1,.int .i64 rs,.int .i64 rn] 28 (0,0))):=(b9.block (w5.heap.size) (lt_of_block bwt27.out)).trans bwt27.out
  clear bwt27
  have bvt28:Hid (woa.heap[w5.heap.size+1]? = some (.cells #[.int .i64 rc,.int .i64 rm,.slice y2 ro.length yk2] 31 (0,0))):=(b9.block (w5.heap.size+1) (lt_of_block bvt27.out)).trans bvt27.out
  clear bvt27
  have G1t28:Hid (woa.ownsRow w9.heap.size 9 1 (Value.slice h1 rk.length hk1) rk.length (scells rk)):=keptN1 G1t27.out b9
  clear G1t27
  have G2t28:Hid (woa.ownsRow w9.heap.size 55 3 (Value.slice h2 ro.length hk2) ro.length (ocells ro)):=keptN3 G2t27.out b9
  clear G2t27
  have bgt28:Hid (woa.heap[wa.heap.size]? = some (.cells #[.slice h1 rk.length hk1,.int .i64 rs,.int .i64 rn] 28 (0,0))):=(b9.block (wa.heap.size) (lt_of_block bgt27.out)).trans bgt27.out
  clear bgt27
  have bht28:Hid (woa.heap[wa.heap.size+1]? = some (.cells #[.int .i64 rc,.int .i64 rm,.slice h2 ro.length hk2] 31 (0,0))):=(b9.block (wa.heap.size+1) (lt_of_block bht27.out)).trans bht27.out
  clear bht27
  have Bt28:Below w.heap.size w woa:=Bt27.trans (b9.mono Bt27.size)
  clear Bt27
  clear b9
  obtain⟨bh0,bh1,bh2,_⟩:=cli_cells bht28.out
  obtain⟨bv0,bv1,bv2,_⟩:=cli_cells bvt28.out
  go_wp2_with fail
  refine (eqBatch_same rc rm _ _ _ _ ro _ (by omega) (isOps_own G2t28.out).2.2 N2t28.out.1.opsN).mono ?_
  rintro e wob ⟨rfl,b9⟩
  clear bh0 bh1 bh2
  clear bv0 bv1 bv2
  have aCt29:Hid (wob.heap[w.heap.size]? = some (.cells #[.slice a ls.length cap,.int .i64 s,.int .i64 n] 24 (0,0))):=(b9.block (w.heap.size) (lt_of_block aCt28.out)).trans aCt28.out
  clear aCt28
  have N1t29:Hid (NewQ wob w4.heap.size w5.heap.size y1 (scells rk)):=N1t28.out.later b9
  clear N1t28
  have N2t29:Hid (NewQ wob w4.heap.size w5.heap.size y2 (ocells ro)):=N2t28.out.later b9
  clear N2t28
  have bwt29:Hid (wob.heap[w5.heap.size]? = some (.cells #[.slice y1 rk.length yk1,.int .i64 rs,.int .i64 rn] 28 (0,0))):=(b9.block (w5.heap.size) (lt_of_block bwt28.out)).trans bwt28.out
  clear bwt28
  have bvt29:Hid (wob.heap[w5.heap.size+1]? = some (.cells #[.int .i64 rc,.int .i64 rm,.slice y2 ro.length yk2] 31 (0,0))):=(b9.block (w5.heap.size+1) (lt_of_block bvt28.out)).trans bvt28.out
  clear bvt28
  have G1t29:Hid (wob.ownsRow w9.heap.size 9 1 (Value.slice h1 rk.length hk1) rk.length (scells rk)):=keptN1 G1t28.out b9
  clear G1t28
  have G2t29:Hid (wob.ownsRow w9.heap.size 55 3 (Value.slice h2 ro.length hk2) ro.length (ocells ro)):=keptN3 G2t28.out b9
  clear G2t28
  have bgt29:Hid (wob.heap[wa.heap.size]? = some (.cells #[.slice h1 rk.length hk1,.int .i64 rs,.int .i64 rn] 28 (0,0))):=(b9.block (wa.heap.size) (lt_of_block bgt28.out)).trans bgt28.out
  clear bgt28
  have bht29:Hid (wob.heap[wa.heap.size+1]? = some (.cells #[.int .i64 rc,.int .i64 rm,.slice h2 ro.length hk2] 31 (0,0))):=(b9.block (wa.heap.size+1) (lt_of_block bht28.out)).trans bht28.out
  clear bht28
  have Bt29:Below w.heap.size w wob:=Bt28.trans (b9.mono Bt28.size)
  clear Bt28
  clear b9
  clear hk0 hkb hk1b hk1p
  have hq0:¬ (1:Int)+(rk.length:Int)<0:=by omega
  have hqb:decide ((1:Int)+(rk.length:Int)<0)=false:=decide_eq_false hq0
  obtain⟨k2,hk2⟩:∃ k2:Nat,k2=1+rk.length:=⟨_,rfl⟩
  have HK9:Hid ((1:Int)+(rk.length:Int)=(k2:Int)):=by rw[Hid];omega
  have hk2b:k2≤3000000:=by omega
  have hk2p:0<k2:=by omega
  clear hk2
  have hr0:¬ (k2:Int)+3*(ro.length:Int)<0:=by omega
  have hrb:decide ((k2:Int)+3*(ro.length:Int)<0)=false:=decide_eq_false hr0
  have hs0:¬ (k2:Int)<0:=by omega
  have hsb:decide ((k2:Int)<0)=false:=decide_eq_false hs0
  obtain⟨bg0,bg1,bg2,_⟩:=cli_cells bgt29.out
  have KM:=markClient_any rk rs rn h1 rk.length hk1 _ 1 wob (by omega) (by omega) (by omega) G1t29.out
  go_wp2_with fail
  refine KM.mono ?_
  rintro e wp ⟨he,om,G⟩
  rw[show ((1:Nat):Int)+(rk.length:Int)=(k2:Int) from HK9.out] at he
  subst he
  clear bg0 bg1 bg2
  clear G1t29
  have aCt30:Hid (wp.heap[w.heap.size]? = some (.cells #[.slice a ls.length cap,.int .i64 s,.int .i64 n] 24 (0,0))):=(G.block (w.heap.size) (lt_of_block aCt29.out) (fun e=>by have hz6:=Z6.out;have hz8:=Z8.out;have hzb:=Zb.out;have hx1:=LX1.out;have hx2:=LX2.out;have hzg:=ZG.out;have hg1:=LG1.out;have hg2:=LG2.out;have hap:=APG.out;have hz0:=Z0.out;have:=hg1 _ e.symm;omega)).trans aCt29.out
  clear aCt29
  have N1t30:Hid (NewQ wp w4.heap.size w5.heap.size y1 (scells rk)):=N1t29.out.kept G (fun q h1 h2 e=>by have hz6:=Z6.out;have hz8:=Z8.out;have hzb:=Zb.out;have hx1:=LX1.out;have hx2:=LX2.out;have hzg:=ZG.out;have hg1:=LG1.out;have hg2:=LG2.out;have hap:=APG.out;have hz0:=Z0.out;have:=hg1 _ e.symm;omega)
  clear N1t29
  have N2t30:Hid (NewQ wp w4.heap.size w5.heap.size y2 (ocells ro)):=N2t29.out.kept G (fun q h1 h2 e=>by have hz6:=Z6.out;have hz8:=Z8.out;have hzb:=Zb.out;have hx1:=LX1.out;have hx2:=LX2.out;have hzg:=ZG.out;have hg1:=LG1.out;have hg2:=LG2.out;have hap:=APG.out;have hz0:=Z0.out;have:=hg1 _ e.symm;omega)
  clear N2t29
  have bwt30:Hid (wp.heap[w5.heap.size]? = some (.cells #[.slice y1 rk.length yk1,.int .i64 rs,.int .i64 rn] 28 (0,0))):=(G.block (w5.heap.size) (lt_of_block bwt29.out) (fun e=>by have hz6:=Z6.out;have hz8:=Z8.out;have hzb:=Zb.out;have hx1:=LX1.out;have hx2:=LX2.out;have hzg:=ZG.out;have hg1:=LG1.out;have hg2:=LG2.out;have hap:=APG.out;have hz0:=Z0.out;have:=hg1 _ e.symm;omega)).trans bwt29.out
  clear bwt29
  have bvt30:Hid (wp.heap[w5.heap.size+1]? = some (.cells #[.int .i64 rc,.int .i64 rm,.slice y2 ro.length yk2] 31 (0,0))):=(G.block (w5.heap.size+1) (lt_of_block bvt29.out) (fun e=>by have hz6:=Z6.out;have hz8:=Z8.out;have hzb:=Zb.out;have hx1:=LX1.out;have hx2:=LX2.out;have hzg:=ZG.out;have hg1:=LG1.out;have hg2:=LG2.out;have hap:=APG.out;have hz0:=Z0.out;have:=hg1 _ e.symm;omega)).trans bvt29.out
  clear bvt29
  have G2t30:Hid (wp.ownsRow w9.heap.size 55 3 (Value.slice h2 ro.length hk2) ro.length (ocells ro)):=G2t29.out.kept G (by
   cases hv:(Value.slice h2 ro.length hk2).ownBlock with
   | none=>exact .inl rfl
   | some q=>exact .inr (fun e=>by have hz6:=Z6.out;have hz8:=Z8.out;have hzb:=Zb.out;have hx1:=LX1.out;have hx2:=LX2.out;have hzg:=ZG.out;have hg1:=LG1.out;have hg2:=LG2.out;have hap:=APG.out;have hz0:=Z0.out;exact hap q (e.symm) hv))
  clear G2t29
  have bgt30:Hid (wp.heap[wa.heap.size]? = some (.cells #[.slice h1 rk.length hk1,.int .i64 rs,.int .i64 rn] 28 (0,0))):=(G.block (wa.heap.size) (lt_of_block bgt29.out) (fun e=>by have hz6:=Z6.out;have hz8:=Z8.out;have hzb:=Zb.out;have hx1:=LX1.out;have hx2:=LX2.out;have hzg:=ZG.out;have hg1:=LG1.out;have hg2:=LG2.out;have hap:=APG.out;have hz0:=Z0.out;have:=hg1 _ e.symm;omega)).trans bgt29.out
  clear bgt29
  have bht30:Hid (wp.heap[wa.heap.size+1]? = some (.cells #[.int .i64 rc,.int .i64 rm,.slice h2 ro.length hk2] 31 (0,0))):=(G.block (wa.heap.size+1) (lt_of_block bht29.out) (fun e=>by have hz6:=Z6.out;have hz8:=Z8.out;have hzb:=Zb.out;have hx1:=LX1.out;have hx2:=LX2.out;have hzg:=ZG.out;have hg1:=LG1.out;have hg2:=LG2.out;have hap:=APG.out;have hz0:=Z0.out;have:=hg1 _ e.symm;omega)).trans bht29.out
  clear bht29
  have Bt30:Below w.heap.size w wp:=Bt29.grown G Bt29.size (fun q hq=>by have hz6:=Z6.out;have hz8:=Z8.out;have hzb:=Zb.out;have hx1:=LX1.out;have hx2:=LX2.out;have hzg:=ZG.out;have hg1:=LG1.out;have hg2:=LG2.out;have hap:=APG.out;have hz0:=Z0.out;have:=hg1 q hq;omega)
  clear Bt29
  have M1a:Hid (wp.ownsRow w9.heap.size 9 1 (Value.slice h1 rk.length hk1) rk.length (scells (marks 1 rk.length))):=om
  clear KM G om
  obtain⟨bh0,bh1,bh2,_⟩:=cli_cells bht30.out
  have KM:=markBatch_genN rc rm ro h2 ro.length hk2 _ k2 wp (by omega) hk2p (by omega) G2t30.out
  go_wp2_with fail
  refine KM.mono ?_
  rintro e wq ⟨he,om,G⟩
  subst he
  clear bh0 bh1 bh2
  clear G2t30
  have aCt31:Hid (wq.heap[w.heap.size]? = some (.cells #[.slice a ls.length cap,.int .i64 s,.int .i64 n] 24 (0,0))):=(G.block (w.heap.size) (lt_of_block aCt30.out) (fun e=>by have hz6:=Z6.out;have hz8:=Z8.out;have hzb:=Zb.out;have hx1:=LX1.out;have hx2:=LX2.out;have hzg:=ZG.out;have hg1:=LG1.out;have hg2:=LG2.out;have hap:=APG.out;have hz0:=Z0.out;have:=hg2 _ e.symm;omega)).trans aCt30.out
  clear aCt30
  have N1t31:Hid (NewQ wq w4.heap.size w5.heap.size y1 (scells rk)):=N1t30.out.kept G (fun q h1 h2 e=>by have hz6:=Z6.out;have hz8:=Z8.out;have hzb:=Zb.out;have hx1:=LX1.out;have hx2:=LX2.out;have hzg:=ZG.out;have hg1:=LG1.out;have hg2:=LG2.out;have hap:=APG.out;have hz0:=Z0.out;have:=hg2 _ e.symm;omega)
  clear N1t30
  have N2t31:Hid (NewQ wq w4.heap.size w5.heap.size y2 (ocells ro)):=N2t30.out.kept G (fun q h1 h2 e=>by have hz6:=Z6.out;have hz8:=Z8.out;have hzb:=Zb.out;have hx1:=LX1.out;have hx2:=LX2.out;have hzg:=ZG.out;have hg1:=LG1.out;have hg2:=LG2.out;have hap:=APG.out;have hz0:=Z0.out;have:=hg2 _ e.symm;omega)
  clear N2t30
  have bwt31:Hid (wq.heap[w5.heap.size]? = some (.cells #[.slice y1 rk.length yk1,.int .i64 rs,.int .i64 rn] 28 (0,0))):=(G.block (w5.heap.size) (lt_of_block bwt30.out) (fun e=>by have hz6:=Z6.out;have hz8:=Z8.out;have hzb:=Zb.out;have hx1:=LX1.out;have hx2:=LX2.out;have hzg:=ZG.out;have hg1:=LG1.out;have hg2:=LG2.out;have hap:=APG.out;have hz0:=Z0.out;have:=hg2 _ e.symm;omega)).trans bwt30.out
  clear bwt30
  have bvt31:Hid (wq.heap[w5.heap.size+1]? = some (.cells #[.int .i64 rc,.int .i64 rm,.slice y2 ro.length yk2] 31 (0,0))):=(G.block (w5.heap.size+1) (lt_of_block bvt30.out) (fun e=>by have hz6:=Z6.out;have hz8:=Z8.out;have hzb:=Zb.out;have hx1:=LX1.out;have hx2:=LX2.out;have hzg:=ZG.out;have hg1:=LG1.out;have hg2:=LG2.out;have hap:=APG.out;have hz0:=Z0.out;have:=hg2 _ e.symm;omega)).trans bvt30.out
  clear bvt30
  have bgt31:Hid (wq.heap[wa.heap.size]? = some (.cells #[.slice h1 rk.length hk1,.int .i64 rs,.int .i64 rn] 28 (0,0))):=(G.block (wa.heap.size) (lt_of_block bgt30.out) (fun e=>by have hz6:=Z6.out;have hz8:=Z8.out;have hzb:=Zb.out;have hx1:=LX1.out;have hx2:=LX2.out;have hzg:=ZG.out;have hg1:=LG1.out;have hg2:=LG2.out;have hap:=APG.out;have hz0:=Z0.out;have:=hg2 _ e.symm;omega)).trans bgt30.out
  clear bgt30
  have bht31:Hid (wq.heap[wa.heap.size+1]? = some (.cells #[.int .i64 rc,.int .i64 rm,.slice h2 ro.length hk2] 31 (0,0))):=(G.block (wa.heap.size+1) (lt_of_block bht30.out) (fun e=>by have hz6:=Z6.out;have hz8:=Z8.out;have hzb:=Zb.out;have hx1:=LX1.out;have hx2:=LX2.out;have hzg:=ZG.out;have hg1:=LG1.out;have hg2:=LG2.out;have hap:=APG.out;have hz0:=Z0.out;have:=hg2 _ e.symm;omega)).trans bht30.out
  clear bht30
  have M1t31:Hid (wq.ownsRow w9.heap.size 9 1 (Value.slice h1 rk.length hk1) rk.length (scells (marks 1 rk.length))):=M1a.out.kept G (by
   cases hv:(Value.slice h1 rk.length hk1).ownBlock with
   | none=>exact .inl rfl
   | some q=>exact .inr (fun e=>by have hz6:=Z6.out;have hz8:=Z8.out;have hzb:=Zb.out;have hx1:=LX1.out;have hx2:=LX2.out;have hzg:=ZG.out;have hg1:=LG1.out;have hg2:=LG2.out;have hap:=APG.out;have hz0:=Z0.out;exact hap q hv e.symm))
  clear M1a
  have Bt31:Below w.heap.size w wq:=Bt30.grown G Bt30.size (fun q hq=>by have hz6:=Z6.out;have hz8:=Z8.out;have hzb:=Zb.out;have hx1:=LX1.out;have hx2:=LX2.out;have hzg:=ZG.out;have hg1:=LG1.out;have hg2:=LG2.out;have hap:=APG.out;have hz0:=Z0.out;have:=hg2 q hq;omega)
  clear Bt30
  have M2a:Hid (wq.ownsRow w9.heap.size 55 3 (Value.slice h2 ro.length hk2) ro.length (ocells (marksO k2 ro.length))):=om
  clear KM G om
  obtain⟨bg0,bg1,bg2,_⟩:=cli_cells bgt31.out
  have KM:=heldClient_any rk.length rs rn h1 rk.length hk1 _ 1 wq (by omega) (by omega) (by omega) M1t31.out
  go_wp2_with fail
  refine KM.mono ?_
  rintro e wra ⟨he,G⟩
  rw[show ((1:Nat):Int)+(rk.length:Int)=(k2:Int) from HK9.out] at he
  subst he
  have bh9:=below_of_grownN G
  clear bg0 bg1 bg2
  have aCt32:Hid (wra.heap[w.heap.size]? = some (.cells #[.slice a ls.length cap,.int .i64 s,.int .i64 n] 24 (0,0))):=(bh9.block (w.heap.size) (lt_of_block aCt31.out)).trans aCt31.out
  clear aCt31
  have N1t32:Hid (NewQ wra w4.heap.size w5.heap.size y1 (scells rk)):=N1t31.out.later bh9
  clear N1t31
  have N2t32:Hid (NewQ wra w4.heap.size w5.heap.size y2 (ocells ro)):=N2t31.out.later bh9
  clear N2t31
  have bwt32:Hid (wra.heap[w5.heap.size]? = some (.cells #[.slice y1 rk.length yk1,.int .i64 rs,.int .i64 rn] 28 (0,0))):=(bh9.block (w5.heap.size) (lt_of_block bwt31.out)).trans bwt31.out
  clear bwt31
  have bvt32:Hid (wra.heap[w5.heap.size+1]? = some (.cells #[.int .i64 rc,.int .i64 rm,.slice y2 ro.length yk2] 31 (0,0))):=(bh9.block (w5.heap.size+1) (lt_of_block bvt31.out)).trans bvt31.out
  clear bvt31
  have bgt32:Hid (wra.heap[wa.heap.size]? = some (.cells #[.slice h1 rk.length hk1,.int .i64 rs,.int .i64 rn] 28 (0,0))):=(bh9.block (wa.heap.size) (lt_of_block bgt31.out)).trans bgt31.out
  clear bgt31
  have bht32:Hid (wra.heap[wa.heap.size+1]? = some (.cells #[.int .i64 rc,.int .i64 rm,.slice h2 ro.length hk2] 31 (0,0))):=(bh9.block (wa.heap.size+1) (lt_of_block bht31.out)).trans bht31.out
  clear bht31
  have M1t32:Hid (wra.ownsRow w9.heap.size 9 1 (Value.slice h1 rk.length hk1) rk.length (scells (marks 1 rk.length))):=keptN1 M1t31.out bh9
  clear M1t31
  have M2t32:Hid (wra.ownsRow w9.heap.size 55 3 (Value.slice h2 ro.length hk2) ro.length (ocells (marksO k2 ro.length))):=keptN3 M2a.out bh9
  clear M2a
  have Bt32:Below w.heap.size w wra:=Bt31.trans (bh9.mono Bt31.size)
  clear Bt31
  clear KM G bh9
  obtain⟨bh0,bh1,bh2,_⟩:=cli_cells bht32.out
  have KM:=heldBatch_genN rc rm ro.length h2 ro.length hk2 _ k2 wra (by omega) hk2p (by omega) M2t32.out
  go_wp2_with fail
  refine KM.mono ?_
  rintro e wrb ⟨he,G⟩
  subst he
  have bh9:=below_of_grownN G
  clear bh0 bh1 bh2
  have aCt33:Hid (wrb.heap[w.heap.size]? = some (.cells #[.slice a ls.length cap,.int .i64 s,.int .i64 n] 24 (0,0))):=(bh9.block (w.heap.size) (lt_of_block aCt32.out)).trans aCt32.out
  clear aCt32
  have N1t33:Hid (NewQ wrb w4.heap.size w5.heap.size y1 (scells rk)):=N1t32.out.later bh9
  clear N1t32
  have N2t33:Hid (NewQ wrb w4.heap.size w5.heap.size y2 (ocells ro)):=N2t32.out.later bh9
  clear N2t32
  have bwt33:Hid (wrb.heap[w5.heap.size]? = some (.cells #[.slice y1 rk.length yk1,.int .i64 rs,.int .i64 rn] 28 (0,0))):=(bh9.block (w5.heap.size) (lt_of_block bwt32.out)).trans bwt32.out
  clear bwt32
  have bvt33:Hid (wrb.heap[w5.heap.size+1]? = some (.cells #[.int .i64 rc,.int .i64 rm,.slice y2 ro.length yk2] 31 (0,0))):=(bh9.block (w5.heap.size+1) (lt_of_block bvt32.out)).trans bvt32.out
  clear bvt32
  have bgt33:Hid (wrb.heap[wa.heap.size]? = some (.cells #[.slice h1 rk.length hk1,.int .i64 rs,.int .i64 rn] 28 (0,0))):=(bh9.block (wa.heap.size) (lt_of_block bgt32.out)).trans bgt32.out
  clear bgt32
  have bht33:Hid (wrb.heap[wa.heap.size+1]? = some (.cells #[.int .i64 rc,.int .i64 rm,.slice h2 ro.length hk2] 31 (0,0))):=(bh9.block (wa.heap.size+1) (lt_of_block bht32.out)).trans bht32.out
  clear bht32
  have M1t33:Hid (wrb.ownsRow w9.heap.size 9 1 (Value.slice h1 rk.length hk1) rk.length (scells (marks 1 rk.length))):=keptN1 M1t32.out bh9
  clear M1t32
  have M2t33:Hid (wrb.ownsRow w9.heap.size 55 3 (Value.slice h2 ro.length hk2) ro.length (ocells (marksO k2 ro.length))):=keptN3 M2t32.out bh9
  clear M2t32
  have Bt33:Below w.heap.size w wrb:=Bt32.trans (bh9.mono Bt32.size)
  clear Bt32
  clear KM G bh9
  obtain⟨aC0,aC1,aC2,_⟩:=cli_cells aCt33.out
  go_wp2_with fail
  clear aC0 aC1 aC2
  refine (HTC.out _ Bt33).mono ?_
  rintro e ws ⟨gf,rfl,o9,b9⟩
  have aCt34:Hid (ws.heap[w.heap.size]? = some (.cells #[.slice a ls.length cap,.int .i64 s,.int .i64 n] 24 (0,0))):=(b9.block (w.heap.size) (lt_of_block aCt33.out)).trans aCt33.out
  clear aCt33
  have N1t34:Hid (NewQ ws w4.heap.size w5.heap.size y1 (scells rk)):=N1t33.out.later b9
  clear N1t33
  have N2t34:Hid (NewQ ws w4.heap.size w5.heap.size y2 (ocells ro)):=N2t33.out.later b9
  clear N2t33
  have bwt34:Hid (ws.heap[w5.heap.size]? = some (.cells #[.slice y1 rk.length yk1,.int .i64 rs,.int .i64 rn] 28 (0,0))):=(b9.block (w5.heap.size) (lt_of_block bwt33.out)).trans bwt33.out
  clear bwt33
  have bvt34:Hid (ws.heap[w5.heap.size+1]? = some (.cells #[.int .i64 rc,.int .i64 rm,.slice y2 ro.length yk2] 31 (0,0))):=(b9.block (w5.heap.size+1) (lt_of_block bvt33.out)).trans bvt33.out
  clear bvt33
  have bgt34:Hid (ws.heap[wa.heap.size]? = some (.cells #[.slice h1 rk.length hk1,.int .i64 rs,.int .i64 rn] 28 (0,0))):=(b9.block (wa.heap.size) (lt_of_block bgt33.out)).trans bgt33.out
  clear bgt33
  have bht34:Hid (ws.heap[wa.heap.size+1]? = some (.cells #[.int .i64 rc,.int .i64 rm,.slice h2 ro.length hk2] 31 (0,0))):=(b9.block (wa.heap.size+1) (lt_of_block bht33.out)).trans bht33.out
  clear bht33
  have M1t34:Hid (ws.ownsRow w9.heap.size 9 1 (Value.slice h1 rk.length hk1) rk.length (scells (marks 1 rk.length))):=keptN1 M1t33.out b9
  clear M1t33
  have M2t34:Hid (ws.ownsRow w9.heap.size 55 3 (Value.slice h2 ro.length hk2) ro.length (ocells (marksO k2 ro.length))):=keptN3 M2t33.out b9
  clear M2t33
  have Bt34:Below w.heap.size w ws:=Bt33.trans (b9.mono Bt33.size)
  clear Bt33
  have T1ws:Hid (ws.ownsRow wrb.heap.size 9 1 (Value.slice (some ⟨gf,0,none⟩) ls.length ls.length) ls.length (scells ls)):=o9
  have LT1:Hid (wrb.heap.size≤gf∧gf<ws.heap.size):=o9.lt gf (by simp[Value.ownBlock])
  clear o9 b9
  go_wp2_with fail
  refine (HTO.out _ Bt34).mono ?_
  rintro e wt ⟨hf,rfl,o9,b9⟩
  have aCt35:Hid (wt.heap[w.heap.size]? = some (.cells #[.slice a ls.length cap,.int .i64 s,.int .i64 n] 24 (0,0))):=(b9.block (w.heap.size) (lt_of_block aCt34.out)).trans aCt34.out
  clear aCt34
  have N1t35:Hid (NewQ wt w4.heap.size w5.heap.size y1 (scells rk)):=N1t34.out.later b9
  clear N1t34
  have N2t35:Hid (NewQ wt w4.heap.size w5.heap.size y2 (ocells ro)):=N2t34.out.later b9
  clear N2t34
  have bwt35:Hid (wt.heap[w5.heap.size]? = some (.cells #[.slice y1 rk.length yk1,.int .i64 rs,.int .i64 rn] 28 (0,0))):=(b9.block (w5.heap.size) (lt_of_block bwt34.out)).trans bwt34.out
  clear bwt34
  have bvt35:Hid (wt.heap[w5.heap.size+1]? = some (.cells #[.int .i64 rc,.int .i64 rm,.slice y2 ro.length yk2] 31 (0,0))):=(b9.block (w5.heap.size+1) (lt_of_block bvt34.out)).trans bvt34.out
  clear bvt34
  have bgt35:Hid (wt.heap[wa.heap.size]? = some (.cells #[.slice h1 rk.length hk1,.int .i64 rs,.int .i64 rn] 28 (0,0))):=(b9.block (wa.heap.size) (lt_of_block bgt34.out)).trans bgt34.out
  clear bgt34
  have bht35:Hid (wt.heap[wa.heap.size+1]? = some (.cells #[.int .i64 rc,.int .i64 rm,.slice h2 ro.length hk2] 31 (0,0))):=(b9.block (wa.heap.size+1) (lt_of_block bht34.out)).trans bht34.out
  clear bht34
  have M1t35:Hid (wt.ownsRow w9.heap.size 9 1 (Value.slice h1 rk.length hk1) rk.length (scells (marks 1 rk.length))):=keptN1 M1t34.out b9
  clear M1t34
  have M2t35:Hid (wt.ownsRow w9.heap.size 55 3 (Value.slice h2 ro.length hk2) ro.length (ocells (marksO k2 ro.length))):=keptN3 M2t34.out b9
  clear M2t34
  have T1t35:Hid (wt.ownsRow wrb.heap.size 9 1 (Value.slice (some ⟨gf,0,none⟩) ls.length ls.length) ls.length (scells ls)):=keptN1 T1ws.out b9
  clear T1ws
  have Bt35:Below w.heap.size w wt:=Bt34.trans (b9.mono Bt34.size)
  clear Bt34
  have T2wt:Hid (wt.ownsRow ws.heap.size 55 3 (Value.slice (some ⟨hf,0,none⟩) os.length os.length) os.length (ocells os)):=o9
  have LT2:Hid (ws.heap.size≤hf∧hf<wt.heap.size):=o9.lt hf (by simp[Value.ownBlock])
  clear o9 b9
  go_wp2_with fail
  refine (HK2.out gf hf _ (strs_own T1t35.out).2.2 (isOps_own T2wt.out).2.2 (HEE.out _ Bt35)).mono ?_
  rintro e wu ⟨f1,fk1,f2,fk2,rfl,n1,n2,hap,b9⟩
  have aCt36:Hid (wu.heap[w.heap.size]? = some (.cells #[.slice a ls.length cap,.int .i64 s,.int .i64 n] 24 (0,0))):=(b9.block (w.heap.size) (lt_of_block aCt35.out)).trans aCt35.out
  clear aCt35
  have N1t36:Hid (NewQ wu w4.heap.size w5.heap.size y1 (scells rk)):=N1t35.out.later b9
  clear N1t35
  have N2t36:Hid (NewQ wu w4.heap.size w5.heap.size y2 (ocells ro)):=N2t35.out.later b9
  clear N2t35
  have bwt36:Hid (wu.heap[w5.heap.size]? = some (.cells #[.slice y1 rk.length yk1,.int .i64 rs,.int .i64 rn] 28 (0,0))):=(b9.block (w5.heap.size) (lt_of_block bwt35.out)).trans bwt35.out
  clear bwt35
  have bvt36:Hid (wu.heap[w5.heap.size+1]? = some (.cells #[.int .i64 rc,.int .i64 rm,.slice y2 ro.length yk2] 31 (0,0))):=(b9.block (w5.heap.size+1) (lt_of_block bvt35.out)).trans bvt35.out
  clear bvt35
  have bgt36:Hid (wu.heap[wa.heap.size]? = some (.cells #[.slice h1 rk.length hk1,.int .i64 rs,.int .i64 rn] 28 (0,0))):=(b9.block (wa.heap.size) (lt_of_block bgt35.out)).trans bgt35.out
  clear bgt35
  have bht36:Hid (wu.heap[wa.heap.size+1]? = some (.cells #[.int .i64 rc,.int .i64 rm,.slice h2 ro.length hk2] 31 (0,0))):=(b9.block (wa.heap.size+1) (lt_of_block bht35.out)).trans bht35.out
  clear bht35
  have M1t36:Hid (wu.ownsRow w9.heap.size 9 1 (Value.slice h1 rk.length hk1) rk.length (scells (marks 1 rk.length))):=keptN1 M1t35.out b9
  clear M1t35
  have M2t36:Hid (wu.ownsRow w9.heap.size 55 3 (Value.slice h2 ro.length hk2) ro.length (ocells (marksO k2 ro.length))):=keptN3 M2t35.out b9
  clear M2t35
  have T1t36:Hid (wu.ownsRow wrb.heap.size 9 1 (Value.slice (some ⟨gf,0,none⟩) ls.length ls.length) ls.length (scells ls)):=keptN1 T1t35.out b9
  clear T1t35
  have T2t36:Hid (wu.ownsRow ws.heap.size 55 3 (Value.slice (some ⟨hf,0,none⟩) os.length os.length) os.length (ocells os)):=keptN3 T2wt.out b9
  clear T2wt
  have Bt36:Below w.heap.size w wu:=Bt35.trans (b9.mono Bt35.size)
  clear Bt35
  have F1wu:Hid (wu.ownsRow wt.heap.size 9 1 (Value.slice f1 rk.length fk1) rk.length (scells rk)):=n1
  have LF1:Hid (∀ q,(Value.slice f1 rk.length fk1).ownBlock=some q→wt.heap.size≤q∧q<wu.heap.size):=fun q hq=>n1.lt q hq
  have F2wu:Hid (wu.ownsRow wt.heap.size 55 3 (Value.slice f2 ro.length fk2) ro.length (ocells ro)):=n2
  have LF2:Hid (∀ q,(Value.slice f2 ro.length fk2).ownBlock=some q→wt.heap.size≤q∧q<wu.heap.size):=fun q hq=>n2.lt q hq
  have APF:Hid (∀ q,(Value.slice f1 rk.length fk1).ownBlock=some q→(Value.slice f2 ro.length fk2).ownBlock≠some q):=hap
  have ZF:Hid (wt.heap.size≤wu.heap.size):=b9.size
  clear n1 n2 b9 hap
  have Xt37:Below wu.heap.size wu (wu.alloc (.cells #[.slice f1 rk.length fk1,.int .i64 rs,.int .i64 rn] 28)):=(Below.refl _ _).alloc (Nat.le_refl _) _
  have aCt38:Hid ((wu.alloc (.cells #[.slice f1 rk.length fk1,.int .i64 rs,.int .i64 rn] 28)).heap[w.heap.size]? = some (.cells #[.slice a ls.length cap,.int .i64 s,.int .i64 n] 24 (0,0))):=(Xt37.block (w.heap.size) (lt_of_block aCt36.out)).trans aCt36.out
  clear aCt36
  have N1t38:Hid (NewQ (wu.alloc (.cells #[.slice f1 rk.length fk1,.int .i64 rs,.int .i64 rn] 28)) w4.heap.size w5.heap.size y1 (scells rk)):=N1t36.out.later Xt37
  clear N1t36
  have N2t38:Hid (NewQ (wu.alloc (.cells #[.slice f1 rk.length fk1,.int .i64 rs,.int .i64 rn] 28)) w4.heap.size w5.heap.size y2 (ocells ro)):=N2t36.out.later Xt37
  clear N2t36
  have bwt38:Hid ((wu.alloc (.cells #[.slice f1 rk.length fk1,.int .i64 rs,.int .i64 rn] 28)).heap[w5.heap.size]? = some (.cells #[.slice y1 rk.length yk1,.int .i64 rs,.int .i64 rn] 28 (0,0))):=(Xt37.block (w5.heap.size) (lt_of_block bwt36.out)).trans bwt36.out
  clear bwt36
  have bvt38:Hid ((wu.alloc (.cells #[.slice f1 rk.length fk1,.int .i64 rs,.int .i64 rn] 28)).heap[w5.heap.size+1]? = some (.cells #[.int .i64 rc,.int .i64 rm,.slice y2 ro.length yk2] 31 (0,0))):=(Xt37.block (w5.heap.size+1) (lt_of_block bvt36.out)).trans bvt36.out
  clear bvt36
  have bgt38:Hid ((wu.alloc (.cells #[.slice f1 rk.length fk1,.int .i64 rs,.int .i64 rn] 28)).heap[wa.heap.size]? = some (.cells #[.slice h1 rk.length hk1,.int .i64 rs,.int .i64 rn] 28 (0,0))):=(Xt37.block (wa.heap.size) (lt_of_block bgt36.out)).trans bgt36.out
  clear bgt36
  have bht38:Hid ((wu.alloc (.cells #[.slice f1 rk.length fk1,.int .i64 rs,.int .i64 rn] 28)).heap[wa.heap.size+1]? = some (.cells #[.int .i64 rc,.int .i64 rm,.slice h2 ro.length hk2] 31 (0,0))):=(Xt37.block (wa.heap.size+1) (lt_of_block bht36.out)).trans bht36.out
  clear bht36
  have M1t38:Hid ((wu.alloc (.cells #[.slice f1 rk.length fk1,.int .i64 rs,.int .i64 rn] 28)).ownsRow w9.heap.size 9 1 (Value.slice h1 rk.length hk1) rk.length (scells (marks 1 rk.length))):=keptN1 M1t36.out Xt37
  clear M1t36
  have M2t38:Hid ((wu.alloc (.cells #[.slice f1 rk.length fk1,.int .i64 rs,.int .i64 rn] 28)).ownsRow w9.heap.size 55 3 (Value.slice h2 ro.length hk2) ro.length (ocells (marksO k2 ro.length))):=keptN3 M2t36.out Xt37
  clear M2t36
  have T1t38:Hid ((wu.alloc (.cells #[.slice f1 rk.length fk1,.int .i64 rs,.int .i64 rn] 28)).ownsRow wrb.heap.size 9 1 (Value.slice (some ⟨gf,0,none⟩) ls.length ls.length) ls.length (scells ls)):=keptN1 T1t36.out Xt37
  clear T1t36
  have T2t38:Hid ((wu.alloc (.cells #[.slice f1 rk.length fk1,.int .i64 rs,.int .i64 rn] 28)).ownsRow ws.heap.size 55 3 (Value.slice (some ⟨hf,0,none⟩) os.length os.length) os.length (ocells os)):=keptN3 T2t36.out Xt37
  clear T2t36
  have F1t38:Hid ((wu.alloc (.cells #[.slice f1 rk.length fk1,.int .i64 rs,.int .i64 rn] 28)).ownsRow wt.heap.size 9 1 (Value.slice f1 rk.length fk1) rk.length (scells rk)):=keptN1 F1wu.out Xt37
  clear F1wu
  have F2t38:Hid ((wu.alloc (.cells #[.slice f1 rk.length fk1,.int .i64 rs,.int .i64 rn] 28)).ownsRow wt.heap.size 55 3 (Value.slice f2 ro.length fk2) ro.length (ocells ro)):=keptN3 F2wu.out Xt37
  clear F2wu
  have Bt38:Below w.heap.size w (wu.alloc (.cells #[.slice f1 rk.length fk1,.int .i64 rs,.int .i64 rn] 28)):=Bt36.trans (Xt37.mono Bt36.size)
  clear Bt36
  clear Xt37
  have bpt37:Hid ((wu.alloc (.cells #[.slice f1 rk.length fk1,.int .i64 rs,.int .i64 rn] 28)).heap[wu.heap.size]? = some (.cells #[.slice f1 rk.length fk1,.int .i64 rs,.int .i64 rn] 28 (0,0))):=heap_alloc_new wu _
  have Xt39:Below (wu.alloc (.cells #[.slice f1 rk.length fk1,.int .i64 rs,.int .i64 rn] 28)).heap.size (wu.alloc (.cells #[.slice f1 rk.length fk1,.int .i64 rs,.int .i64 rn] 28)) ((wu.alloc (.cells #[.slice f1 rk.length fk1,.int .i64 rs,.int .i64 rn] 28)).alloc (.cells #[.int .i64 rc,.int .i64 rm,.slice f2 ro.length fk2] 31)):=(Below.refl _ _).alloc (Nat.le_refl _) _
  have aCt40:Hid (((wu.alloc (.cells #[.slice f1 rk.length fk1,.int .i64 rs,.int .i64 rn] 28)).alloc (.cells #[.int .i64 rc,.int .i64 rm,.slice f2 ro.length fk2] 31)).heap[w.heap.size]? = some (.cells #[.slice a ls.length cap,.int .i64 s,.int .i64 n] 24 (0,0))):=(Xt39.block (w.heap.size) (lt_of_block aCt38.out)).trans aCt38.out
  clear aCt38
  have N1t40:Hid (NewQ ((wu.alloc (.cells #[.slice f1 rk.length fk1,.int .i64 rs,.int .i64 rn] 28)).alloc (.cells #[.int .i64 rc,.int .i64 rm,.slice f2 ro.length fk2] 31)) w4.heap.size w5.heap.size y1 (scells rk)):=N1t38.out.later Xt39
  clear N1t38
  have N2t40:Hid (NewQ ((wu.alloc (.cells #[.slice f1 rk.length fk1,.int .i64 rs,.int .i64 rn] 28)).alloc (.cells #[.int .i64 rc,.int .i64 rm,.slice f2 ro.length fk2] 31)) w4.heap.size w5.heap.size y2 (ocells ro)):=N2t38.out.later Xt39
  clear N2t38
  have bwt40:Hid (((wu.alloc (.cells #[.slice f1 rk.length fk1,.int .i64 rs,.int .i64 rn] 28)).alloc (.cells #[.int .i64 rc,.int .i64 rm,.slice f2 ro.length fk2] 31)).heap[w5.heap.size]? = some (.cells #[.slice y1 rk.length yk1,.int .i64 rs,.int .i64 rn] 28 (0,0))):=(Xt39.block (w5.heap.size) (lt_of_block bwt38.out)).trans bwt38.out
  clear bwt38
  have bvt40:Hid (((wu.alloc (.cells #[.slice f1 rk.length fk1,.int .i64 rs,.int .i64 rn] 28)).alloc (.cells #[.int .i64 rc,.int .i64 rm,.slice f2 ro.length fk2] 31)).heap[w5.heap.size+1]? = some (.cells #[.int .i64 rc,.int .i64 rm,.slice y2 ro.length yk2] 31 (0,0))):=(Xt39.block (w5.heap.size+1) (lt_of_block bvt38.out)).trans bvt38.out
  clear bvt38
  have bgt40:Hid (((wu.alloc (.cells #[.slice f1 rk.length fk1,.int .i64 rs,.int .i64 rn] 28)).alloc (.cells #[.int .i64 rc,.int .i64 rm,.slice f2 ro.length fk2] 31)).heap[wa.heap.size]? = some (.cells #[.slice h1 rk.length hk1,.int .i64 rs,.int .i64 rn] 28 (0,0))):=(Xt39.block (wa.heap.size) (lt_of_block bgt38.out)).trans bgt38.out
  clear bgt38
  have bht40:Hid (((wu.alloc (.cells #[.slice f1 rk.length fk1,.int .i64 rs,.int .i64 rn] 28)).alloc (.cells #[.int .i64 rc,.int .i64 rm,.slice f2 ro.length fk2] 31)).heap[wa.heap.size+1]? = some (.cells #[.int .i64 rc,.int .i64 rm,.slice h2 ro.length hk2] 31 (0,0))):=(Xt39.block (wa.heap.size+1) (lt_of_block bht38.out)).trans bht38.out
  clear bht38
  have M1t40:Hid (((wu.alloc (.cells #[.slice f1 rk.length fk1,.int .i64 rs,.int .i64 rn] 28)).alloc (.cells #[.int .i64 rc,.int .i64 rm,.slice f2 ro.length fk2] 31)).ownsRow w9.heap.size 9 1 (Value.slice h1 rk.length hk1) rk.length (scells (marks 1 rk.length))):=keptN1 M1t38.out Xt39
  clear M1t38
  have M2t40:Hid (((wu.alloc (.cells #[.slice f1 rk.length fk1,.int .i64 rs,.int .i64 rn] 28)).alloc (.cells #[.int .i64 rc,.int .i64 rm,.slice f2 ro.length fk2] 31)).ownsRow w9.heap.size 55 3 (Value.slice h2 ro.length hk2) ro.length (ocells (marksO k2 ro.length))):=keptN3 M2t38.out Xt39
  clear M2t38
  have T1t40:Hid (((wu.alloc (.cells #[.slice f1 rk.length fk1,.int .i64 rs,.int .i64 rn] 28)).alloc (.cells #[.int .i64 rc,.int .i64 rm,.slice f2 ro.length fk2] 31)).ownsRow wrb.heap.size 9 1 (Value.slice (some ⟨gf,0,none⟩) ls.length ls.length) ls.length (scells ls)):=keptN1 T1t38.out Xt39
  clear T1t38
  have T2t40:Hid (((wu.alloc (.cells #[.slice f1 rk.length fk1,.int .i64 rs,.int .i64 rn] 28)).alloc (.cells #[.int .i64 rc,.int .i64 rm,.slice f2 ro.length fk2] 31)).ownsRow ws.heap.size 55 3 (Value.slice (some ⟨hf,0,none⟩) os.length os.length) os.length (ocells os)):=keptN3 T2t38.out Xt39
  clear T2t38
  have F1t40:Hid (((wu.alloc (.cells #[.slice f1 rk.length fk1,.int .i64 rs,.int .i64 rn] 28)).alloc (.cells #[.int .i64 rc,.int .i64 rm,.slice f2 ro.length fk2] 31)).ownsRow wt.heap.size 9 1 (Value.slice f1 rk.length fk1) rk.length (scells rk)):=keptN1 F1t38.out Xt39
  clear F1t38
  have F2t40:Hid (((wu.alloc (.cells #[.slice f1 rk.length fk1,.int .i64 rs,.int .i64 rn] 28)).alloc (.cells #[.int .i64 rc,.int .i64 rm,.slice f2 ro.length fk2] 31)).ownsRow wt.heap.size 55 3 (Value.slice f2 ro.length fk2) ro.length (ocells ro)):=keptN3 F2t38.out Xt39
  clear F2t38
  have bpt40:Hid (((wu.alloc (.cells #[.slice f1 rk.length fk1,.int .i64 rs,.int .i64 rn] 28)).alloc (.cells #[.int .i64 rc,.int .i64 rm,.slice f2 ro.length fk2] 31)).heap[wu.heap.size]? = some (.cells #[.slice f1 rk.length fk1,.int .i64 rs,.int .i64 rn] 28 (0,0))):=(Xt39.block (wu.heap.size) (lt_of_block bpt37.out)).trans bpt37.out
  clear bpt37
  have Bt40:Below w.heap.size w ((wu.alloc (.cells #[.slice f1 rk.length fk1,.int .i64 rs,.int .i64 rn] 28)).alloc (.cells #[.int .i64 rc,.int .i64 rm,.slice f2 ro.length fk2] 31)):=Bt38.trans (Xt39.mono Bt38.size)
  clear Bt38
  clear Xt39
  have bqt39:Hid (((wu.alloc (.cells #[.slice f1 rk.length fk1,.int .i64 rs,.int .i64 rn] 28)).alloc (.cells #[.int .i64 rc,.int .i64 rm,.slice f2 ro.length fk2] 31)).heap[wu.heap.size+1]? = some (.cells #[.int .i64 rc,.int .i64 rm,.slice f2 ro.length fk2] 31 (0,0))):=alloc2_new _ _ _
  clear T1t40
  clear T2t40
  obtain⟨bp0,bp1,bp2,_⟩:=cli_cells bpt40.out
  obtain⟨bw0,bw1,bw2,_⟩:=cli_cells bwt40.out
  go_wp2_with fail
  clear bp0 bp1 bp2
  clear bw0 bw1 bw2
  obtain⟨wv,hwwv⟩:∃ W,W=((wu.alloc (.cells #[.slice f1 rk.length fk1,.int .i64 rs,.int .i64 rn] 28)).alloc (.cells #[.int .i64 rc,.int .i64 rm,.slice f2 ro.length fk2] 31)):=⟨_,rfl⟩
  rw[←hwwv] at ⊢ Bt40 aCt40 N1t40 N2t40 bwt40 bvt40 bgt40 bht40 M1t40 M2t40 F1t40 F2t40 bpt40 bqt39
  clear hwwv
  refine (eqClient_is _ _ _ _ rk rs rn _ (by omega) (strs_own F1t40.out).2.2 (newR_strs N1t40.out.1)).mono ?_
  rintro e wxa ⟨rfl,b9⟩
  have aCt41:Hid (wxa.heap[w.heap.size]? = some (.cells #[.slice a ls.length cap,.int .i64 s,.int .i64 n] 24 (0,0))):=(b9.block (w.heap.size) (lt_of_block aCt40.out)).trans aCt40.out
  clear aCt40
  have N1t41:Hid (NewQ wxa w4.heap.size w5.heap.size y1 (scells rk)):=N1t40.out.later b9
  clear N1t40
  have N2t41:Hid (NewQ wxa w4.heap.size w5.heap.size y2 (ocells ro)):=N2t40.out.later b9
  clear N2t40
  have bwt41:Hid (wxa.heap[w5.heap.size]? = some (.cells #[.slice y1 rk.length yk1,.int .i64 rs,.int .i64 rn] 28 (0,0))):=(b9.block (w5.heap.size) (lt_of_block bwt40.out)).trans bwt40.out
  clear bwt40
  have bvt41:Hid (wxa.heap[w5.heap.size+1]? = some (.cells #[.int .i64 rc,.int .i64 rm,.slice y2 ro.length yk2] 31 (0,0))):=(b9.block (w5.heap.size+1) (lt_of_block bvt40.out)).trans bvt40.out
  clear bvt40
  have bgt41:Hid (wxa.heap[wa.heap.size]? = some (.cells #[.slice h1 rk.length hk1,.int .i64 rs,.int .i64 rn] 28 (0,0))):=(b9.block (wa.heap.size) (lt_of_block bgt40.out)).trans bgt40.out
  clear bgt40
  have bht41:Hid (wxa.heap[wa.heap.size+1]? = some (.cells #[.int .i64 rc,.int .i64 rm,.slice h2 ro.length hk2] 31 (0,0))):=(b9.block (wa.heap.size+1) (lt_of_block bht40.out)).trans bht40.out
  clear bht40
  have M1t41:Hid (wxa.ownsRow w9.heap.size 9 1 (Value.slice h1 rk.length hk1) rk.length (scells (marks 1 rk.length))):=keptN1 M1t40.out b9
  clear M1t40
  have M2t41:Hid (wxa.ownsRow w9.heap.size 55 3 (Value.slice h2 ro.length hk2) ro.length (ocells (marksO k2 ro.length))):=keptN3 M2t40.out b9
  clear M2t40
  have F1t41:Hid (wxa.ownsRow wt.heap.size 9 1 (Value.slice f1 rk.length fk1) rk.length (scells rk)):=keptN1 F1t40.out b9
  clear F1t40
  have F2t41:Hid (wxa.ownsRow wt.heap.size 55 3 (Value.slice f2 ro.length fk2) ro.length (ocells ro)):=keptN3 F2t40.out b9
  clear F2t40
  have bpt41:Hid (wxa.heap[wu.heap.size]? = some (.cells #[.slice f1 rk.length fk1,.int .i64 rs,.int .i64 rn] 28 (0,0))):=(b9.block (wu.heap.size) (lt_of_block bpt40.out)).trans bpt40.out
  clear bpt40
  have bqt41:Hid (wxa.heap[wu.heap.size+1]? = some (.cells #[.int .i64 rc,.int .i64 rm,.slice f2 ro.length fk2] 31 (0,0))):=(b9.block (wu.heap.size+1) (lt_of_block bqt39.out)).trans bqt39.out
  clear bqt39
  have Bt41:Below w.heap.size w wxa:=Bt40.trans (b9.mono Bt40.size)
  clear Bt40
  clear b9
  obtain⟨bq0,bq1,bq2,_⟩:=cli_cells bqt41.out
  obtain⟨bv0,bv1,bv2,_⟩:=cli_cells bvt41.out
  go_wp2_with fail
  refine (eqBatch_same rc rm _ _ _ _ ro _ (by omega) (isOps_own F2t41.out).2.2 N2t41.out.1.opsN).mono ?_
  rintro e wxb ⟨rfl,b9⟩
  clear bq0 bq1 bq2
  clear bv0 bv1 bv2
  have aCt42:Hid (wxb.heap[w.heap.size]? = some (.cells #[.slice a ls.length cap,.int .i64 s,.int .i64 n] 24 (0,0))):=(b9.block (w.heap.size) (lt_of_block aCt41.out)).trans aCt41.out
  clear aCt41
  have N1t42:Hid (NewQ wxb w4.heap.size w5.heap.size y1 (scells rk)):=N1t41.out.later b9
  clear N1t41
  have N2t42:Hid (NewQ wxb w4.heap.size w5.heap.size y2 (ocells ro)):=N2t41.out.later b9
  clear N2t41
  have bwt42:Hid (wxb.heap[w5.heap.size]? = some (.cells #[.slice y1 rk.length yk1,.int .i64 rs,.int .i64 rn] 28 (0,0))):=(b9.block (w5.heap.size) (lt_of_block bwt41.out)).trans bwt41.out
  clear bwt41
  have bvt42:Hid (wxb.heap[w5.heap.size+1]? = some (.cells #[.int .i64 rc,.int .i64 rm,.slice y2 ro.length yk2] 31 (0,0))):=(b9.block (w5.heap.size+1) (lt_of_block bvt41.out)).trans bvt41.out
  clear bvt41
  have bgt42:Hid (wxb.heap[wa.heap.size]? = some (.cells #[.slice h1 rk.length hk1,.int .i64 rs,.int .i64 rn] 28 (0,0))):=(b9.block (wa.heap.size) (lt_of_block bgt41.out)).trans bgt41.out
  clear bgt41
  have bht42:Hid (wxb.heap[wa.heap.size+1]? = some (.cells #[.int .i64 rc,.int .i64 rm,.slice h2 ro.length hk2] 31 (0,0))):=(b9.block (wa.heap.size+1) (lt_of_block bht41.out)).trans bht41.out
  clear bht41
  have M1t42:Hid (wxb.ownsRow w9.heap.size 9 1 (Value.slice h1 rk.length hk1) rk.length (scells (marks 1 rk.length))):=keptN1 M1t41.out b9
  clear M1t41
  have M2t42:Hid (wxb.ownsRow w9.heap.size 55 3 (Value.slice h2 ro.length hk2) ro.length (ocells (marksO k2 ro.length))):=keptN3 M2t41.out b9
  clear M2t41
  have F1t42:Hid (wxb.ownsRow wt.heap.size 9 1 (Value.slice f1 rk.length fk1) rk.length (scells rk)):=keptN1 F1t41.out b9
  clear F1t41
  have F2t42:Hid (wxb.ownsRow wt.heap.size 55 3 (Value.slice f2 ro.length fk2) ro.length (ocells ro)):=keptN3 F2t41.out b9
  clear F2t41
  have bpt42:Hid (wxb.heap[wu.heap.size]? = some (.cells #[.slice f1 rk.length fk1,.int .i64 rs,.int .i64 rn] 28 (0,0))):=(b9.block (wu.heap.size) (lt_of_block bpt41.out)).trans bpt41.out
  clear bpt41
  have bqt42:Hid (wxb.heap[wu.heap.size+1]? = some (.cells #[.int .i64 rc,.int .i64 rm,.slice f2 ro.length fk2] 31 (0,0))):=(b9.block (wu.heap.size+1) (lt_of_block bqt41.out)).trans bqt41.out
  clear bqt41
  have Bt42:Below w.heap.size w wxb:=Bt41.trans (b9.mono Bt41.size)
  clear Bt41
  clear b9
  obtain⟨bg0,bg1,bg2,_⟩:=cli_cells bgt42.out
  have KM:=heldClient_any rk.length rs rn h1 rk.length hk1 _ 1 wxb (by omega) (by omega) (by omega) M1t42.out
  go_wp2_with fail
  refine KM.mono ?_
  rintro e wya ⟨he,G⟩
  rw[show ((1:Nat):Int)+(rk.length:Int)=(k2:Int) from HK9.out] at he
  subst he
  have bh9:=below_of_grownN G
  clear bg0 bg1 bg2
  have aCt43:Hid (wya.heap[w.heap.size]? = some (.cells #[.slice a ls.length cap,.int .i64 s,.int .i64 n] 24 (0,0))):=(bh9.block (w.heap.size) (lt_of_block aCt42.out)).trans aCt42.out
  clear aCt42
  have N1t43:Hid (NewQ wya w4.heap.size w5.heap.size y1 (scells rk)):=N1t42.out.later bh9
  clear N1t42
  have N2t43:Hid (NewQ wya w4.heap.size w5.heap.size y2 (ocells ro)):=N2t42.out.later bh9
  clear N2t42
  have bwt43:Hid (wya.heap[w5.heap.size]? = some (.cells #[.slice y1 rk.length yk1,.int .i64 rs,.int .i64 rn] 28 (0,0))):=(bh9.block (w5.heap.size) (lt_of_block bwt42.out)).trans bwt42.out
  clear bwt42
  have bvt43:Hid (wya.heap[w5.heap.size+1]? = some (.cells #[.int .i64 rc,.int .i64 rm,.slice y2 ro.length yk2] 31 (0,0))):=(bh9.block (w5.heap.size+1) (lt_of_block bvt42.out)).trans bvt42.out
  clear bvt42
  have bgt43:Hid (wya.heap[wa.heap.size]? = some (.cells #[.slice h1 rk.length hk1,.int .i64 rs,.int .i64 rn] 28 (0,0))):=(bh9.block (wa.heap.size) (lt_of_block bgt42.out)).trans bgt42.out
  clear bgt42
  have bht43:Hid (wya.heap[wa.heap.size+1]? = some (.cells #[.int .i64 rc,.int .i64 rm,.slice h2 ro.length hk2] 31 (0,0))):=(bh9.block (wa.heap.size+1) (lt_of_block bht42.out)).trans bht42.out
  clear bht42
  have M1t43:Hid (wya.ownsRow w9.heap.size 9 1 (Value.slice h1 rk.length hk1) rk.length (scells (marks 1 rk.length))):=keptN1 M1t42.out bh9
  clear M1t42
  have M2t43:Hid (wya.ownsRow w9.heap.size 55 3 (Value.slice h2 ro.length hk2) ro.length (ocells (marksO k2 ro.length))):=keptN3 M2t42.out bh9
  clear M2t42
  have F1t43:Hid (wya.ownsRow wt.heap.size 9 1 (Value.slice f1 rk.length fk1) rk.length (scells rk)):=keptN1 F1t42.out bh9
  clear F1t42
  have F2t43:Hid (wya.ownsRow wt.heap.size 55 3 (Value.slice f2 ro.length fk2) ro.length (ocells ro)):=keptN3 F2t42.out bh9
  clear F2t42
  have bpt43:Hid (wya.heap[wu.heap.size]? = some (.cells #[.slice f1 rk.length fk1,.int .i64 rs,.int .i64 rn] 28 (0,0))):=(bh9.block (wu.heap.size) (lt_of_block bpt42.out)).trans bpt42.out
  clear bpt42
  have bqt43:Hid (wya.heap[wu.heap.size+1]? = some (.cells #[.int .i64 rc,.int .i64 rm,.slice f2 ro.length fk2] 31 (0,0))):=(bh9.block (wu.heap.size+1) (lt_of_block bqt42.out)).trans bqt42.out
  clear bqt42
  have Bt43:Below w.heap.size w wya:=Bt42.trans (bh9.mono Bt42.size)
  clear Bt42
  clear KM G bh9
  obtain⟨bh0,bh1,bh2,_⟩:=cli_cells bht43.out
  have KM:=heldBatch_genN rc rm ro.length h2 ro.length hk2 _ k2 wya (by omega) hk2p (by omega) M2t43.out
  go_wp2_with fail
  refine KM.mono ?_
  rintro e wyb ⟨he,G⟩
  subst he
  have bh9:=below_of_grownN G
  clear bh0 bh1 bh2
  have aCt44:Hid (wyb.heap[w.heap.size]? = some (.cells #[.slice a ls.length cap,.int .i64 s,.int .i64 n] 24 (0,0))):=(bh9.block (w.heap.size) (lt_of_block aCt43.out)).trans aCt43.out
  clear aCt43
  have N1t44:Hid (NewQ wyb w4.heap.size w5.heap.size y1 (scells rk)):=N1t43.out.later bh9
  clear N1t43
  have N2t44:Hid (NewQ wyb w4.heap.size w5.heap.size y2 (ocells ro)):=N2t43.out.later bh9
  clear N2t43
  have bwt44:Hid (wyb.heap[w5.heap.size]? = some (.cells #[.slice y1 rk.length yk1,.int .i64 rs,.int .i64 rn] 28 (0,0))):=(bh9.block (w5.heap.size) (lt_of_block bwt43.out)).trans bwt43.out
  clear bwt43
  have bvt44:Hid (wyb.heap[w5.heap.size+1]? = some (.cells #[.int .i64 rc,.int .i64 rm,.slice y2 ro.length yk2] 31 (0,0))):=(bh9.block (w5.heap.size+1) (lt_of_block bvt43.out)).trans bvt43.out
  clear bvt43
  have bgt44:Hid (wyb.heap[wa.heap.size]? = some (.cells #[.slice h1 rk.length hk1,.int .i64 rs,.int .i64 rn] 28 (0,0))):=(bh9.block (wa.heap.size) (lt_of_block bgt43.out)).trans bgt43.out
  clear bgt43
  have bht44:Hid (wyb.heap[wa.heap.size+1]? = some (.cells #[.int .i64 rc,.int .i64 rm,.slice h2 ro.length hk2] 31 (0,0))):=(bh9.block (wa.heap.size+1) (lt_of_block bht43.out)).trans bht43.out
  clear bht43
  have M1t44:Hid (wyb.ownsRow w9.heap.size 9 1 (Value.slice h1 rk.length hk1) rk.length (scells (marks 1 rk.length))):=keptN1 M1t43.out bh9
  clear M1t43
  have M2t44:Hid (wyb.ownsRow w9.heap.size 55 3 (Value.slice h2 ro.length hk2) ro.length (ocells (marksO k2 ro.length))):=keptN3 M2t43.out bh9
  clear M2t43
  have F1t44:Hid (wyb.ownsRow wt.heap.size 9 1 (Value.slice f1 rk.length fk1) rk.length (scells rk)):=keptN1 F1t43.out bh9
  clear F1t43
  have F2t44:Hid (wyb.ownsRow wt.heap.size 55 3 (Value.slice f2 ro.length fk2) ro.length (ocells ro)):=keptN3 F2t43.out bh9
  clear F2t43
  have bpt44:Hid (wyb.heap[wu.heap.size]? = some (.cells #[.slice f1 rk.length fk1,.int .i64 rs,.int .i64 rn] 28 (0,0))):=(bh9.block (wu.heap.size) (lt_of_block bpt43.out)).trans bpt43.out
  clear bpt43
  have bqt44:Hid (wyb.heap[wu.heap.size+1]? = some (.cells #[.int .i64 rc,.int .i64 rm,.slice f2 ro.length fk2] 31 (0,0))):=(bh9.block (wu.heap.size+1) (lt_of_block bqt43.out)).trans bqt43.out
  clear bqt43
  have Bt44:Below w.heap.size w wyb:=Bt43.trans (bh9.mono Bt43.size)
  clear Bt43
  clear KM G bh9
  go_wp2
  go_ret
  exact⟨rfl,Bt44⟩
theorem own:ownKnob Tryd.prog.godebug=none:=by kernel_rfl
theorem laidOut0:laidOutB Tryd.prog=true:=by kernel_rfl
theorem gN0 : Tryd.prog.globalNamed "loop.example/g00226/impl.errClient" = some 0 := by kernel_rfl
theorem gT0:(Tryd.prog.globals[0]?).map (·.type)=some 58:=by kernel_rfl
theorem gN1 : Tryd.prog.globalNamed "loop.example/g00226/impl.errBatch" = some 1 := by kernel_rfl
theorem gT1:(Tryd.prog.globals[1]?).map (·.type)=some 58:=by kernel_rfl
theorem gN2 : Tryd.prog.globalNamed "loop.example/g00226/impl.errLast" = some 2 := by kernel_rfl
theorem gT2:(Tryd.prog.globals[2]?).map (·.type)=some 58:=by kernel_rfl
theorem door_met (os:Os) (args:Array Value):laidMetH Tryd.prog Rows.fnExactNextBatchRow.laid ((World.doorLaid Tryd.prog 400 os).forCall (fun _ _=>0) ⟨#[],args,[]⟩).memory :=
 laidMetH_of_parts3 (fuel:=8) (laidMet_of_run' 8 (by kernel_rfl) (by kernel_rfl)) (by kernel_rfl) (by kernel_rfl)
theorem vars_read3 {H:Type} (enc:TypeId × Value→H) {W:World} {x0 x1 x2:Value}
 (h0 : W.var? Tryd.prog "loop.example/g00226/impl.errClient" = some #[x0]) (i0 : IsIface x0) (h1 : W.var? Tryd.prog "loop.example/g00226/impl.errBatch" = some #[x1]) (i1 : IsIface x1) (h2 : W.var? Tryd.prog "loop.example/g00226/impl.errLast" = some #[x2]) (i2 : IsIface x2) (sp : Nat → Bool) :
 DataW.TrodVars enc Tryd.prog W sp ["loop.example/g00226/impl.errClient", "loop.example/g00226/impl.errBatch", "loop.example/g00226/impl.errLast"] [tok enc x0, tok enc x1, tok enc x2] [.cell 0 0, .cell 1 0, .cell 2 0] :=
 ⟨0,58,#[x0],1,[],[.cell 1 0,.cell 2 0],gN0,gT0,h0,trod_held Tryd.underlying58 i0 0,⟨1,58,#[x1],1,[],[.cell 2 0],gN1,gT1,h1,trod_held Tryd.underlying58 i1 0,⟨2,58,#[x2],1,[],[],gN2,gT2,h2,trod_held Tryd.underlying58 i2 0,rfl,rfl⟩,rfl⟩,rfl⟩
theorem var?_belowN {g:Nat} {W W':World} {n:String} {cs:Array Value} (h:Below W.heap.size W W') (hg:Tryd.prog.globalNamed n=some g) (hv:W.var? Tryd.prog n=some cs) (hgB:g<W.heap.size):W'.var? Tryd.prog n=some cs:=by
 unfold World.var? at hv ⊢
 simp only[hg,Option.bind_some] at hv ⊢
 rw[h.block g hgB]
 exact hv
set_option maxRecDepth 100000 in
theorem lifted (os:Os) (started:os.Started) (H:Type) (enc:TypeId × Value→H) :
 ReturnsInHanded {} Tryd.checked os 3 .any (fun w args=>(Rows.fnExactNextBatchSpec.pre enc Tryd.prog Tryd.f3 [] false w args∧laidMetH Tryd.prog Rows.fnExactNextBatchRow.laid w)∧sizedMet enc Tryd.prog Tryd.f3 (OpenSpec.ofChange Rows.fnExactNextBatchSpec) false w args)
  (Rows.fnExactNextBatchSpec.post enc Tryd.prog Tryd.f3 false true false false):=by
 refine returnsInHanded_of_change_and (C:=Tryd.checked) (X:=fun w _=>laidMetH Tryd.prog Rows.fnExactNextBatchRow.laid w) (fun _ _ _ hh h=>h.of_heap hh) own started (by kernel_rfl) Tryd.func3
  (ChangeSpec.witness_shaped (enc:=enc) (C:=Tryd.checked) (os:=os) (X:=fun w _=>laidMetH Tryd.prog Rows.fnExactNextBatchRow.laid w) false (World.doorLaid Tryd.prog 400 os) #[.agg #[.slice none 0 0,.int .i64 0,.int .i64 0],.int .i64 0,.slice none 0 0] 8 rfl (World.shaped_of_RefB (by kernel_rfl) (by kernel_rfl)) (by kernel_rfl) (by kernel_rfl) (by kernel_rfl) (door_met os _)) ?_
 intro W base args ds gs before hval0 hW _ _ hL _
 have hval:∀ (j:Nat) t v,Tryd.f3.params[j]? = some t→args[j]? = some v→Value.okWide Tryd.prog W .any base t v:=hval0
 have hW':=hW
 obtain⟨p,q,hA0,hV0,rfl,hfz,hnd⟩:=hW
 have hA:DataW.TrodAll enc Tryd.prog W 0 (fun _=>true) true Tryd.f3.params.toList args.toList ds p:=hA0
 have hV : DataW.TrodVars enc Tryd.prog W (fun _ => true) ["loop.example/g00226/impl.errClient", "loop.example/g00226/impl.errBatch", "loop.example/g00226/impl.errLast"] gs q := hV0
 rw[Tryd.params3] at hA hval
 obtain⟨v0,vs0,d0,ds0,p0,q0,hargs,rfl,rfl,h0,r0⟩:=trodAll_cons hA
 obtain⟨v1,vs1,d1,ds1,p1,q1,hargs1,rfl,rfl,h1,r1⟩:=trodAll_cons r0
 obtain⟨v2,vs2,d2,ds2,p2,q2,hargs2,rfl,rfl,h2,r2⟩:=trodAll_cons r1
 obtain⟨rfl,rfl,rfl⟩:=trodAll_nil r2
 obtain rfl:args=#[v0,v1,v2]:=by cases args;simp_all
 have k0:=h0
 have k1:=h1
 have k2:=h2
 have lt0:∀ x∈p0,x.block<W.heap.size:=by obtain⟨m,hm⟩:=k0;exact DataW.trod_lt m _ _ _ hm
 have lt1:∀ x∈p1,x.block<W.heap.size:=by obtain⟨m,hm⟩:=k1;exact DataW.trod_lt m _ _ _ hm
 have lt2:∀ x∈p2,x.block<W.heap.size:=by obtain⟨m,hm⟩:=k2;exact DataW.trod_lt m _ _ _ hm
 obtain⟨a0,cap0,ls,s0,n0,hv0,hs,hl,hm⟩:=client_of (hval 0 24 v0 rfl rfl) h0
 obtain⟨id0,hv1⟩:∃ tn:Int,v1=.int .i64 tn:=by
  obtain⟨n9,rfl,_⟩:=okWide_int Tryd.underlying2 (hval 1 2 v1 rfl rfl)
  exact⟨n9,rfl⟩
 obtain⟨b0,oo,cb0,hv2,hm2,hs2,hl2⟩:∃ (a:Option Addr) (ps:List OpL) (cap:Nat),v2=.slice a ps.length cap∧(∀ p∈ps,p.1.length≤9223372036854775807∧p.2.1.length≤9223372036854775807)∧IsOps W a ps∧ps.length≤9223372036854775807:=by
  obtain⟨a9,n9,c9,rfl⟩:=okWide_slice Tryd.underlying25 (hval 2 25 v2 rfl rfl)
  obtain⟨fuel,hf⟩:=h2
  exact ops_of (by simpa [Value.cells] using hf)
 obtain⟨e0,e1,e2,hE,x0,x1,x2⟩:=errs_of hL
 obtain⟨rfl,rfl⟩:=hV.unique (vars_read3 enc x0 trivial x1 trivial x2 trivial _)
 have y0:0<W.heap.size:=World.block_lt_of_cell? W _ hE.g0
 have y1:1<W.heap.size:=World.block_lt_of_cell? W _ hE.g1
 have y2:2<W.heap.size:=World.block_lt_of_cell? W _ hE.g2
 clear hA0 hV0 hval0 hA hV hL
 subst hv0 hv1 hv2
 simp only[List.append_nil] at hW'
 refine (walk a0 cap0 ls s0 n0 id0 b0 cb0 oo W e0 e1 e2 hE hl hm hs hl2 hm2 hs2).mono fun e W' ⟨he,hB⟩=>?_
 subst he
 have hv':=vars_read3 enc (var?_belowN hB gN0 x0 y0) trivial (var?_belowN hB gN1 x1 y1) trivial (var?_belowN hB gN2 x2 y2) trivial (fun b=>decide (b<W.heap.size))
 exact⟨_,rfl,_,_,_,[],_,_,hW',trodAll_mk1 (shut_bool Tryd.underlying4 _),(trodAll_cons_mk (Below.trod laidOut0 (by kernel_rfl) (of_decide_eq_true (by kernel_rfl)) k0 hB lt0) (trodAll_cons_mk (Below.trod laidOut0 (by kernel_rfl) (of_decide_eq_true (by kernel_rfl)) k1 hB lt1) (trodAll_cons_mk (Below.trod laidOut0 (by kernel_rfl) (of_decide_eq_true (by kernel_rfl)) k2 hB lt2) trodAll_mk0))),hv',hB.frame _,fun h=>by cases h⟩
theorem named0 : Tryd.prog.funcNamed "loop.example/g00226/laws.FnExactNextBatch" = some 3 := by kernel_rfl
theorem closed0:joinedFacts Tryd.prog 3 Tryd.f3 Rows.fnExactNextBatchSpec Rows.fnExactNextBatchRow=true:=by
 unfold joinedFacts
 rw[seat_may,seat_lifts,seat_make]
 kernel_rfl
theorem inst0:Tryd.f3.isInstance Tryd.prog Rows.fnExactNextBatchRow.origin Rows.fnExactNextBatchRow.targs:=of_decide_eq_true (by kernel_rfl)
theorem wrap0:Tryd.f3.isWrapper Tryd.prog Rows.fnExactNextBatchRow.wrapper Rows.fnExactNextBatchRow.mainSum:=by unfold Func.isWrapper;first | (rw[if_pos (by decide +kernel)];kernel_rfl) | (rw[if_neg (by decide +kernel)];exact⟨rfl,rfl⟩)
theorem over:Rows.fnExactNextBatchRow.holds Tryd.pinned (OpenSpec.ofChange Rows.fnExactNextBatchSpec) :=
 OpenClaim.holds_of_wide 3 Tryd.f3 rfl rfl rfl rfl rfl rfl rfl ⟨rfl,rfl,rfl,rfl,rfl⟩ rfl rfl rfl rfl rfl named0 Tryd.func3 closed0 inst0 wrap0
  (fun os started H enc _=>lifted os started H enc)
theorem text0:Rows.fnExactNextBatchRow.wfByText (OpenSpec.ofChange Rows.fnExactNextBatchSpec)=true:=by kernel_rfl
theorem looks0:true=Tryd.prog.looks []:=by kernel_rfl
theorem goes0:false=Rows.fnExactNextBatchRow.goesBy Tryd.prog:=by kernel_rfl
theorem wants0:([24,2,25].all fun u => !Tryd.prog.wantsStandIn u)=true:=by kernel_rfl
theorem card:Claim7.holds Tryd.pinned (.plain (OpenSpec.ofChange Rows.fnExactNextBatchSpec)) Rows.fnExactNextBatchCard :=
 Claim7.holds_tied_plain_at .later [] [.sentinel,.sentinel,.sentinel] true (true,Rows.fnExactNextBatchCard.stood.harness.2) true
  over (fun _ h=>by cases h) text0 (fun _ h=>by cases h) fnExactNextBatch_row_tie rfl ⟨rfl,rfl⟩ seat_main rfl
  (fun f fn hf hfn => by
   obtain rfl:f=3:=Option.some.inj (named0.symm.trans hf) |>.symm
   obtain rfl:fn=Tryd.f3:=(Option.some.inj (Tryd.func3.symm.trans hfn)).symm
   exact⟨looks0,fun j t ht=>by
    rw[Tryd.params3] at ht
    have hm:t∈[24,2,25]:=by simpa using Array.mem_of_getElem? ht
    exact (show Tryd.prog.wantsStandIn t=false by simpa using List.all_eq_true.1 wants0 t hm)⟩)
  goes0
end Go.Proofs.YtbpgpmchnjbclaaDoor.fnExactNextBatch
namespace Go.Proofs.YtbpgpmchnjbclaaDoor
theorem fnExactNextBatch_holds:Rows.FnExactNextBatchCardSaid:=fnExactNextBatch.card
end Go.Proofs.YtbpgpmchnjbclaaDoor
