/-
 At every client, certificate, key and proof ReadAt answers as its model; it writes into no argument and keeps nothing of one; its answer owns its memory. No condition; the four errors, the digest's round words and the handle of the type 'error' are laid as the program's text lays them.
-/
import Derived.Test.YtllmclmcncolcaaGreatDoorRdS
import Derived.Test.YtllmclmcncolcaaGreatDoorRdI
import Derived.Test.YtllmclmcncolcaaGreatDoorCertM
import Derived.Test.YtllmclmcncolcaaGreatDoorNbH
import Derived.Test.YtllmclmcncolcaaGreatDoorVotes2
import Derived.Test.YtllmclmcncolcaaGreatDoorSSums
import Derived.Test.YtllmclmcncolcaaGreatDoorIListAll
import Derived.Deep.RegionHeld3
import Derived.Deep.Cut
import Derived.Deep.CutRange
import Derived.Test.YtllmclmcncolcaaGreatDoorRdE
import Derived.Test.YtllmclmcncolcaaGreatDoorSeatAll
import Derived.Test.YtllmclmcncolcaaGreatDoorTie
import Derived.Test.YtllmclmcncolcaaGreatDoorCards
import Derived.ProofKit
import Derived.LaidMore
import Derived.OpenShut
import Derived.ShutString
import Derived.ChangeOld
import Derived.Below
import Derived.Stop.Joined
import Derived.Stop.LaidErr
import Derived.SevenTiedAt
import Derived.SliceStrings
import Derived.Lib.SmallJoins
namespace Go.Proofs.YtllmclmcncolcaaGreatDoor.fnExactReadAt
open Go.ChangeShapes Go.WideShapes Go.ChangeAt Go.RowKit
open Go.ChangeMaps (open_string shut_string)
set_option linter.unusedVariables false
theorem vot_lo {w:World} {lo hi g:Nat} {vs:List VoteV} (h:VotesO w lo hi (some ⟨g,0,none⟩) vs):lo≤g:=by
 obtain⟨g',xs,hg,_,h2,_,_⟩:=h
 cases hg
 exact (h2.lt g (by simp[Value.ownBlock])).1
theorem rdR_len (ks:List (List UInt8)) (sn nx n:Int) (root:List UInt8) (vs:List VoteV) (key:List UInt8) (ts:List (List UInt8)):(rdR ks sn nx n root vs key ts).1.length≤ks.length:=by
 unfold rdR
 split
 · exact Nat.le_refl _
 · split
   · exact Nat.zero_le _
   · exact Nat.le_refl _
theorem each_leN (ls:List (List UInt8)) (h:ls.length+ls.flatten.length≤1048576):∀ l∈ls,l.length≤1048576:=fun l hl=>by obtain⟨j,hj,rfl⟩:=List.getElem_of_mem hl;have:=each_le ls j hj;omega
theorem below_of_grownN {w w':World} (h:w.grownBy w' none):Below w.heap.size w w':=⟨h.os,h.tape,h.output,h.size,fun k hk=>h.block k hk (by simp)⟩
theorem below_out {B lo hi:Nat} {w w1 w':World} (hb:Below B w w1) (h:Outs lo hi w1 w') (hl:B≤lo) (hB:B≤w.heap.size):Below B w w' :=
 ⟨h.os.trans hb.os,h.tape.trans hb.tape,h.output.trans hb.output,Nat.le_trans hb.size h.size,fun q hq=>(h.block q (Nat.lt_of_lt_of_le hq (Nat.le_trans hB hb.size)) (.inl (Nat.lt_of_lt_of_le hq hl))).trans (hb.block q hq)⟩
theorem cl_store {B base bs n size:Nat} {t e:TypeId} {w0 w:World} {xs:List Value} {u v z s:Value} (hz:w.heap[bs]? = some (.cells #[u,v,z] t (0,0))) (hb:B≤bs) (hB:Below B w0 w) (ho:w.ownsRow base e size s n xs) (hk:s.ownBlock≠some bs) (x y q:Value) :
 (((w.setCell ⟨bs,0,none⟩ x).setCell ⟨bs,1,none⟩ y).setCell ⟨bs,2,none⟩ q).heap[bs]? = some (.cells #[x,y,q] t (0,0))∧Below B w0 (((w.setCell ⟨bs,0,none⟩ x).setCell ⟨bs,1,none⟩ y).setCell ⟨bs,2,none⟩ q)∧(((w.setCell ⟨bs,0,none⟩ x).setCell ⟨bs,1,none⟩ y).setCell ⟨bs,2,none⟩ q).ownsRow base e size s n xs :=
 ⟨cli_set (j := 2) (cli_set (j := 1) (cli_set (j := 0) hz)), ((hB.setCell (by simpa using hb) _).setCell (by simpa using hb) _).setCell (by simpa using hb) _,
  ownsRow_setCell_other (ownsRow_setCell_other (ownsRow_setCell_other ho hk _) hk _) hk _⟩
set_option maxRecDepth 100000 in
set_option maxHeartbeats 4000000 in
theorem walk (a : Option Addr) (cap : Nat) (ls : List (List UInt8)) (s n ix : Int) (root : List UInt8) (b : Option Addr) (cb : Nat) (vs : List VoteV) (key : List UInt8) (bp : Option Addr) (cp : Nat) (ts : List (List UInt8)) (w : World) (e0 e1 e2 e3 : Addr) (hE : Errs4 w e0 e1 e2 e3) (hT : Tab w) (hl : ls.length ≤ 9223372036854775807) (hm : ∀ l ∈ ls, l.length ≤ 9223372036854775807) (hs : IsStrs w a ls) (hr : root.length ≤ 9223372036854775807) (hvl : vs.length ≤ 9223372036854775807) (hvm : ∀ v ∈ vs, bigV v) (hv : IsVotes w b vs) (hk : key.length ≤ 9223372036854775807) (htl : ts.length ≤ 9223372036854775807) (htm : ∀ l ∈ ts, l.length ≤ 9223372036854775807) (hts : IsStrs w bp ts) :
 Calls Tryz.prog 3 #[.agg #[.slice a ls.length cap,.int .i64 s,.int .i64 n],.agg #[.int .i64 ix,.string ⟨root.toArray⟩,.slice b vs.length cb],.string ⟨key.toArray⟩,.slice bp ts.length cp] w fun e w'=>e=.returned (.bool true)∧Below w.heap.size w w':=by
 by_cases hkb:key.length≤1048576
 case neg =>
  have hkz:(ByteArray.mk key.toArray).size=key.length:=by simp[ByteArray.size]
  have hkq:decide ((1048576:Int)<((ByteArray.mk key.toArray).size:Int))=true:=decide_eq_true (by omega)
  have B0:Below w.heap.size w ((w.alloc (.cells #[.slice a ls.length cap,.int .i64 s,.int .i64 n] 24)).alloc (.cells #[.int .i64 ix,.string ⟨root.toArray⟩,.slice b vs.length cb] 27)):=((Below.refl _ _).alloc (Nat.le_refl _) _).alloc (by simp) _
  clear hs hm hvm hv hts htm hE hT
  go_enter Tryz.func3,Tryz.ntmps3
  go_wp2
  go_ret
  exact⟨rfl,B0⟩
 have hkz:(ByteArray.mk key.toArray).size=key.length:=by simp[ByteArray.size]
 have hkq:decide ((1048576:Int)<((ByteArray.mk key.toArray).size:Int))=false:=decide_eq_false (by omega)
 have hkn:¬ (1048576:Int)<((ByteArray.mk key.toArray).size:Int):=by omega
 have HKB:Hid (key.length≤1048576):=hkb
 have HS:Hid (∀ W,Below w.heap.size w W→IsStrs W a ls):=fun W hW=>strs_later hs hW
 have HV:Hid (∀ W,Below w.heap.size w W→IsVotes W b vs):=fun W hW=>hv.later hW
 have HP:Hid (∀ W,Below w.heap.size w W→IsStrs W bp ts):=fun W hW=>strs_later hts hW
 have HET:Hid (∀ W,Below w.heap.size w W→Errs4 W e0 e1 e2 e3∧Tab W):=fun W hW=>⟨hE.later hW,hT.later hW⟩
 have Bz:Below w.heap.size w w:=Below.refl _ _
 obtain⟨wz,hwz⟩:∃ W,W=((w.alloc (.cells #[.slice a ls.length cap,.int .i64 s,.int .i64 n] 24)).alloc (.cells #[.int .i64 ix,.string ⟨root.toArray⟩,.slice b vs.length cb] 27)):=⟨_,rfl⟩
 have Xz:Below w.heap.size w wz:=by rw[hwz];exact ((Below.refl _ _).alloc (Nat.le_refl _) _).alloc (by simp) _
 have Bt1:Below w.heap.size w wz:=Bz.trans (Xz.mono Bz.size)
 clear Bz
 have aCz:Hid (wz.heap[w.heap.size]? = some (.cells #[.slice a ls.length cap,.int .i64 s,.int .i64 n] 24 (0,0))):=by rw[hwz,Hid,Below.heap_alloc _ _ _ (by simp)];exact heap_alloc_new w _
 have aTz:Hid (wz.heap[w.heap.size+1]? = some (.cells #[.int .i64 ix,.string ⟨root.toArray⟩,.slice b vs.length cb] 27 (0,0))):=by
  rw[hwz,Hid]
  have:=heap_alloc_new (w.alloc (.cells #[.slice a ls.length cap,.int .i64 s,.int .i64 n] 24)) (.cells #[.int .i64 ix,.string ⟨root.toArray⟩,.slice b vs.length cb] 27)
  simpa using this
 have KZ:=szClient_genN 1048576 (Nat.le_refl _) a cap ls s n wz hl hm (HS.out _ Bt1)
 have HKZ2:Hid (∀ q W,q≤1048576→Below w.heap.size w W→_):=fun q W hq hW=>szCert_gen ix root b cb vs q W hq hr hvl hvm (HV.out W hW)
 have HKZ3:Hid (∀ q W,q≤1048576→Below w.heap.size w W→_):=fun q W hq hW=>szS_gen bp cp ts q W hq htl htm (HP.out W hW)
 clear hs hv hts hm hvm htm hE hT Xz hkb
 obtain⟨aC0,aC1,aC2,_⟩:=cli_cells aCz.out
 obtain⟨aT0,aT1,aT2,_⟩:=cli_cells aTz.out
 rw[hwz] at KZ aC0 aC1 aC2 aT0 aT1 aT2
 go_enter Tryz.func3,Tryz.ntmps3
 go_wp2_with fail
 refine KZ.mono ?_
 rintro e w1 ⟨he,b1⟩
 rw[←hwz] at b1
 clear aC0 aC1 aC2
 clear aT0 aT1 aT2
 have aCt2:Hid (w1.heap[w.heap.size]? = some (.cells #[.slice a ls.length cap,.int .i64 s,.int .i64 n] 24 (0,0))):=(b1.block (w.heap.size) (lt_of_block aCz.out)).trans aCz.out
 clear aCz
 have aTt2:Hid (w1.heap[w.heap.size+1]? = some (.cells #[.int .i64 ix,.string ⟨root.toArray⟩,.slice b vs.length cb] 27 (0,0))):=(b1.block (w.heap.size+1) (lt_of_block aTz.out)).trans aTz.out
 clear aTz
 have Bt2:Below w.heap.size w w1:=Bt1.trans (b1.mono Bt1.size)
 clear Bt1
 clear KZ b1 hwz
 rcases he with rfl | ⟨hsz,n1,hn1,rfl⟩
 · go_wp2
   go_ret
   exact⟨rfl,Bt2⟩
 have hn10:(0:Int)≤(n1:Int):=by omega
 have KZ2:=HKZ2.out n1 w1 hn1 Bt2
 have HZ1:Hid (ls.length+ls.flatten.length≤1048576∧n1≤1048576):=⟨hsz,hn1⟩
 clear HKZ2 hsz hn1
 obtain⟨aC0,aC1,aC2,_⟩:=cli_cells aCt2.out
 obtain⟨aT0,aT1,aT2,_⟩:=cli_cells aTt2.out
 go_wp2_with fail
 refine KZ2.mono ?_
 rintro e w2 ⟨he,b2⟩
 clear aC0 aC1 aC2
 clear aT0 aT1 aT2
 have aCt3:Hid (w2.heap[w.heap.size]? = some (.cells #[.slice a ls.length cap,.int .i64 s,.int .i64 n] 24 (0,0))):=(b2.block (w.heap.size) (lt_of_block aCt2.out)).trans aCt2.out
 clear aCt2
 have aTt3:Hid (w2.heap[w.heap.size+1]? = some (.cells #[.int .i64 ix,.string ⟨root.toArray⟩,.slice b vs.length cb] 27 (0,0))):=(b2.block (w.heap.size+1) (lt_of_block aTt2.out)).trans aTt2.out
 clear aTt2
 have Bt3:Below w.heap.size w w2:=Bt2.trans (b2.mono Bt2.size)
 clear Bt2
 clear KZ2 b2
 rcases he with rfl | ⟨hsz2,n2,hn2,hn2s,rfl⟩
 · go_wp2
   go_ret
   exact⟨rfl,Bt3⟩
 have hn20:(0:Int)≤(n2:Int):=by omega
 have HZ2:Hid (root.length+(vs.length+sizeVs vs)≤1048576):=by have:=HZ1.out;rw[Hid];omega
 have KZ3:=HKZ3.out n2 w2 (by have:=HZ1.out;omega) Bt3
 have HN2:Hid (n2≤1048576):=by rw[Hid];have:=HZ1.out;omega
 clear HKZ3 hsz2 hn2 hn2s
 go_wp2_with fail
 refine KZ3.mono ?_
 rintro e w3 ⟨he,rfl⟩
 clear KZ3
 rcases he with rfl | ⟨hsz3,n3,hn3,hn3s,rfl⟩
 · go_wp2
   go_ret
   exact⟨rfl,Bt3⟩
 have hn30:(0:Int)≤(n3:Int):=by omega
 have HZ3:Hid (ts.length+ts.flatten.length≤1048576):=by rw[Hid];have:=HN2.out;omega
 have hln:ls.length≤1048576:=by have:=HZ1.out;omega
 have hlr:root.length≤1048576:=by have:=HZ2.out;omega
 have hlv:vs.length≤1048576:=by have:=HZ2.out;omega
 have hlt:ts.length≤1048576:=by have:=HZ3.out;omega
 have hmm:=each_leN ls HZ1.out.1
 have hmt:=each_leN ts HZ3.out
 have hmv:∀ v∈vs,smallV v∧(∀ l∈v.os,l.length≤1048576)∧(∀ l∈v.ps,l.length≤1048576):=fun v hv=>by
  obtain⟨q,hq,rfl⟩:=List.getElem_of_mem hv
  have h1:=sizeVs_at vs q hq
  have h0:=HZ2.out
  simp only[sizeV] at h1
  refine⟨⟨by omega,by omega⟩,fun l hl=>?_,fun l hl=>?_⟩
  · obtain⟨j,hj,rfl⟩:=List.getElem_of_mem hl;have:=each_le vs[q].os j hj;omega
  · obtain⟨j,hj,rfl⟩:=List.getElem_of_mem hl;have:=each_le vs[q].ps j hj;omega
 have hms:Hid (∀ v∈vs,smallV v):=fun v hv=>(hmv v hv).1
 have HK1':=fun (g h p:Nat) W (h1:IsStrs W (some ⟨g,0,none⟩) ls) (h2:IsVotes W (some ⟨h,0,none⟩) vs) (h3:IsStrs W (some ⟨p,0,none⟩) ts)=>spec_readAt (some ⟨g,0,none⟩) ls.length ls s n ix root (some ⟨h,0,none⟩) vs.length vs key (some ⟨p,0,none⟩) ts.length ts W hln hmm h1 hlr hlv hmv h2 HKB.out hlt hmt h3 (by simp)
 have HK2':=fun (g h p:Nat) W (h1:IsStrs W (some ⟨g,0,none⟩) ls) (h2:IsVotes W (some ⟨h,0,none⟩) vs) (h3:IsStrs W (some ⟨p,0,none⟩) ts) (h4:Errs4 W e0 e1 e2 e3∧Tab W)=>impl_readAt (some ⟨g,0,none⟩) ls.length ls s n ix root (some ⟨h,0,none⟩) vs.length vs key (some ⟨p,0,none⟩) ts.length ts W e0 e1 e2 e3 h4.1 h4.2 hln hmm h1 hlr hlv hmv h2 HKB.out hlt hmt h3 (Nat.le_refl _) (by simp) (.inr ⟨g,0,rfl⟩)
 have hr0:(rdR ls s n ix root vs key ts).1.length≤ls.length:=rdR_len ls s n ix root vs key ts
 unfold RaPost at HK1' HK2'
 obtain⟨rr,hrr⟩:∃ x,x=rdR ls s n ix root vs key ts:=⟨_,rfl⟩
 rw[←hrr] at HK1' HK2' hr0
 clear hrr
 obtain⟨rk,rs,rn,rcd,rvl⟩:=rr
 have hrk:rk.length≤1048576:=Nat.le_trans hr0 hln
 have HK1:Hid (∀ (g h p:Nat) W,IsStrs W (some ⟨g,0,none⟩) ls→IsVotes W (some ⟨h,0,none⟩) vs→IsStrs W (some ⟨p,0,none⟩) ts→Calls Tryz.prog 7 #[.agg #[.slice (some ⟨g,0,none⟩) ls.length ls.length,.int .i64 s,.int .i64 n],.agg #[.int .i64 ix,.string ⟨root.toArray⟩,.slice (some ⟨h,0,none⟩) vs.length vs.length],.string ⟨key.toArray⟩,.slice (some ⟨p,0,none⟩) ts.length ts.length] W fun e w'=>∃ (xa:Option Addr) (xc:Nat),e=.returned (.tuple #[.agg #[.slice xa rk.length xc,.int .i64 rs,.int .i64 rn],.int .i64 rcd,.string ⟨rvl.toArray⟩])∧w'.ownsRow W.heap.size 9 1 (.slice xa rk.length xc) rk.length (scells rk)∧Below W.heap.size W w'):=HK1'
 have HK2:Hid (∀ (g h p:Nat) W,IsStrs W (some ⟨g,0,none⟩) ls→IsVotes W (some ⟨h,0,none⟩) vs→IsStrs W (some ⟨p,0,none⟩) ts→Errs4 W e0 e1 e2 e3∧Tab W→Calls Tryz.prog 11 #[.agg #[.slice (some ⟨g,0,none⟩) ls.length ls.length,.int .i64 s,.int .i64 n],.agg #[.int .i64 ix,.string ⟨root.toArray⟩,.slice (some ⟨h,0,none⟩) vs.length vs.length],.string ⟨key.toArray⟩,.slice (some ⟨p,0,none⟩) ts.length ts.length] W fun e w'=>∃ (xa:Option Addr) (xc:Nat),e=.returned (.tuple #[.agg #[.slice xa rk.length xc,.int .i64 rs,.int .i64 rn],.int .i64 rcd,.string ⟨rvl.toArray⟩])∧w'.ownsRow W.heap.size 9 1 (.slice xa rk.length xc) rk.length (scells rk)∧Below W.heap.size W w'):=HK2'
 have HTC:Hid (∀ W,Below w.heap.size w W→Calls Tryz.prog 8 #[.agg #[.slice a ls.length cap,.int .i64 s,.int .i64 n]] W fun e w'=>∃ g:Nat,e=.returned (.agg #[.slice (some ⟨g,0,none⟩) ls.length ls.length,.int .i64 s,.int .i64 n])∧w'.ownsRow W.heap.size 9 1 (.slice (some ⟨g,0,none⟩) ls.length ls.length) ls.length (scells ls)∧Below W.heap.size W w'):=fun W hW=>toClient_any a cap ls s n W hln (HS.out W hW)
 have HTV:Hid (∀ W,Below w.heap.size w W→Calls Tryz.prog 9 #[.agg #[.int .i64 ix,.string ⟨root.toArray⟩,.slice b vs.length cb]] W fun e w'=>∃ g:Nat,e=.returned (.agg #[.int .i64 ix,.string ⟨root.toArray⟩,.slice (some ⟨g,0,none⟩) vs.length vs.length])∧VotesO w' W.heap.size w'.heap.size (some ⟨g,0,none⟩) vs∧Below W.heap.size W w'):=fun W hW=>toCert_own ix root b cb vs W hlv hms.out (HV.out W hW)
 have HTS:Hid (∀ W,Below w.heap.size w W→Calls Tryz.prog 10 #[.slice bp ts.length cp] W fun e w'=>∃ g:Nat,e=.returned (.slice (some ⟨g,0,none⟩) ts.length ts.length)∧w'.ownsRow W.heap.size 9 1 (.slice (some ⟨g,0,none⟩) ts.length ts.length) ts.length (scells ts)∧Below W.heap.size W w'):=fun W hW=>(toS_any bp cp ts W hlt (HP.out W hW)).mono fun e w' ⟨h1,h2,h3⟩=>⟨W.heap.size,h1,h2,h3⟩
 clear HK1' HK2' hr0 hmm hmt hmv hsz3 hn3 hn3s HS HV HP hl hr hvl hk htl
 have HZ0:Hid (w.heap.size+1<w3.heap.size):=lt_of_block aTt3.out
 have SB:Hid (∀ W,Below w3.heap.size w3 W→W.cell? ⟨w.heap.size,0,none⟩=some (.slice a ls.length cap)∧W.cell? ⟨w.heap.size,1,none⟩=some (.int .i64 s)∧W.cell? ⟨w.heap.size,2,none⟩=some (.int .i64 n)∧W.cell? ⟨w.heap.size+1,0,none⟩=some (.int .i64 ix)∧W.cell? ⟨w.heap.size+1,1,none⟩=some (.string ⟨root.toArray⟩)∧W.cell? ⟨w.heap.size+1,2,none⟩=some (.slice b vs.length cb)):=fun W hW=>by
  obtain⟨u0,u1,u2,_⟩:=cli_cells ((hW.block _ (lt_of_block aCt3.out)).trans aCt3.out)
  obtain⟨v0,v1,v2,_⟩:=cli_cells ((hW.block _ (lt_of_block aTt3.out)).trans aTt3.out)
  exact⟨u0,u1,u2,v0,v1,v2⟩
 have BD:Below w3.heap.size w3 w3.drew:=⟨rfl,rfl,rfl,Nat.le_refl _,fun _ _=>rfl⟩
 have BDa:Below w3.heap.size w3 (w3.alloc (.cells #[.slice none 0 0,.int .i64 0,.int .i64 0] 31)).drew:=⟨rfl,rfl,rfl,by show _≤(w3.alloc _).heap.size;simp,fun q hq=>Below.heap_alloc _ _ _ hq⟩
 have HWB:Hid (∀ W,Below w3.heap.size w3 W→Below w.heap.size w W):=fun W h=>Bt3.trans (h.mono Bt3.size)
 have ZN:Hid ((w3.alloc (.cells #[.slice none 0 0,.int .i64 0,.int .i64 0] 31)).drew.heap[w3.heap.size]? = some (.cells #[.slice none 0 0,.int .i64 0,.int .i64 0] 31 (0,0))):=heap_alloc_new w3 _
 obtain⟨aC0,aC1,aC2,_⟩:=cli_cells aCt3.out
 obtain⟨aT0,aT1,aT2,_⟩:=cli_cells aTt3.out
 go_wp2
 go_cut [10,11,12] from 43 (fun v6 v7 v8 wx=>∃ (bs:Nat) (xa:Option Addr) (xc:Nat),v6=.pointer (some ⟨bs,0,none⟩)∧v7=.int .i64 rcd∧v8=.string ⟨rvl.toArray⟩∧Hid (wx.heap[bs]? = some (.cells #[.slice xa rk.length xc,.int .i64 rs,.int .i64 rn] 31 (0,0)))∧Hid (w3.heap.size≤bs∧∀ q,(Value.slice xa rk.length xc).ownBlock=some q→w3.heap.size≤q∧q≠bs)∧Hid (wx.ownsRow w3.heap.size 9 1 (.slice xa rk.length xc) rk.length (scells rk))∧Hid (Below w3.heap.size w3 wx))
 case first =>
  go_region_held3 (fun w'=>w'.cell? ⟨w.heap.size,0,none⟩=some (.slice a ls.length cap)∧w'.cell? ⟨w.heap.size,1,none⟩=some (.int .i64 s)∧w'.cell? ⟨w.heap.size,2,none⟩=some (.int .i64 n)∧w'.cell? ⟨w.heap.size+1,0,none⟩=some (.int .i64 ix)∧w'.cell? ⟨w.heap.size+1,1,none⟩=some (.string ⟨root.toArray⟩)∧w'.cell? ⟨w.heap.size+1,2,none⟩=some (.slice b vs.length cb)) (first | with_reducible exact SB.out _ BX | with_reducible exact SB.out _ (BXS.out _ _ _) | with_reducible exact SB.out _ BC3 | with_reducible exact SB.out _ BC2 | with_reducible exact SB.out _ BC1 | with_reducible exact SB.out _ BD | with_reducible exact SB.out _ BDa | with_reducible exact SB.out _ (BC3.alloc BC3.size _) | with_reducible exact SB.out _ (BC2.alloc BC2.size _) | with_reducible exact SB.out _ (BC1.alloc BC1.size _) | with_reducible exact SB.out _ (BX.alloc BX.size _) | go_keep)
   (first
    | (go_at_call 7
       with_reducible refine (HK1.out _ _ _ (w3k.alloc (.cells #[.slice none 0 0,.int .i64 0,.int .i64 0] 31)) (strs_later I1_3.out ((Below.refl _ _).alloc (Nat.le_refl _) _)) (I2_3.out.later ((Below.refl _ _).alloc (Nat.le_refl _) _)) (strs_later I3_3.out ((Below.refl _ _).alloc (Nat.le_refl _) _))).mono ?_
       rintro e w3l ⟨xa,xc,rfl,ox,bx⟩
       have sW:=((BC3.alloc BC3.size (.cells #[.slice none 0 0,.int .i64 0,.int .i64 0] 31))).size
       have BX:Below w3.heap.size w3 w3l:=((BC3.alloc BC3.size (.cells #[.slice none 0 0,.int .i64 0,.int .i64 0] 31))).trans (bx.mono sW)
       have OX:Hid (w3l.ownsRow w3.heap.size 9 1 (.slice xa rk.length xc) rk.length (scells rk)):=ox.mono sW
       have HBX:Hid (Below w3.heap.size w3 w3l):=BX
       have XL:Hid (∀ q,(Value.slice xa rk.length xc).ownBlock=some q→((w3k.alloc (.cells #[.slice none 0 0,.int .i64 0,.int .i64 0] 31))).heap.size≤q∧q<w3l.heap.size):=fun q hq=>ox.lt q hq
       have HN:Hid (w3l.heap[w3k.heap.size]? = some (.cells #[.slice none 0 0,.int .i64 0,.int .i64 0] 31 (0,0))):=(bx.block _ (lt_of_block (heap_alloc_new w3k (.cells #[.slice none 0 0,.int .i64 0,.int .i64 0] 31)))).trans (heap_alloc_new w3k (.cells #[.slice none 0 0,.int .i64 0,.int .i64 0] 31))
       have HNL:Hid (w3k.heap.size<((w3k.alloc (.cells #[.slice none 0 0,.int .i64 0,.int .i64 0] 31))).heap.size∧w3.heap.size≤w3k.heap.size):=⟨lt_of_block (heap_alloc_new w3k (.cells #[.slice none 0 0,.int .i64 0,.int .i64 0] 31)),BC3.size⟩
       have BXS:Hid (∀ x y z,Below w3.heap.size w3 (((w3l.setCell ⟨w3k.heap.size,0,none⟩ x).setCell ⟨w3k.heap.size,1,none⟩ y).setCell ⟨w3k.heap.size,2,none⟩ z)):=fun x y z=>((BX.setCell HNL.out.2 _).setCell HNL.out.2 _).setCell HNL.out.2 _
       have HQ:Hid (w3.heap.size≤w3k.heap.size∧∀ q,(Value.slice xa rk.length xc).ownBlock=some q→w3.heap.size≤q∧q≠w3k.heap.size):=⟨HNL.out.2,fun q hq=>⟨(OX.out.lt q hq).1,by have h1:=(XL.out q hq).1;have h2:=HNL.out.1;omega⟩⟩
       have TS:Hid (∀ x y z,_):=fun x y z=>cl_store HN.out HNL.out.2 BX OX.out (fun e=>(HQ.out.2 _ e).2 rfl) x y z
       obtain⟨y0,y1,y2,yf⟩:=cli_cells HN.out
       have yf0:=yf 0
       have yf1:=yf 1
       have yf2:=yf 2
       clear yf
       clear ox bx sW)
    | (go_at_call 7
       with_reducible refine (HK1.out _ _ _ w3k I1_3.out I2_3.out I3_3.out).mono ?_
       rintro e w3l ⟨xa,xc,rfl,ox,bx⟩
       have sW:=(BC3).size
       have BX:Below w3.heap.size w3 w3l:=(BC3).trans (bx.mono sW)
       have OX:Hid (w3l.ownsRow w3.heap.size 9 1 (.slice xa rk.length xc) rk.length (scells rk)):=ox.mono sW
       have HBX:Hid (Below w3.heap.size w3 w3l):=BX
       have XL:Hid (∀ q,(Value.slice xa rk.length xc).ownBlock=some q→(w3k).heap.size≤q∧q<w3l.heap.size):=fun q hq=>ox.lt q hq
       (try
        (have HN : Hid (w3l.heap[w3.heap.size]? = some (.cells #[.slice none 0 0, .int .i64 0, .int .i64 0] 31 (0, 0))) := (bx.block _ (lt_of_block HN0_3.out)).trans HN0_3.out
         have HNL:Hid (w3.heap.size<(w3k).heap.size∧w3.heap.size≤w3.heap.size):=⟨lt_of_block HN0_3.out,Nat.le_refl _⟩
         have BXS:Hid (∀ x y z,Below w3.heap.size w3 (((w3l.setCell ⟨w3.heap.size,0,none⟩ x).setCell ⟨w3.heap.size,1,none⟩ y).setCell ⟨w3.heap.size,2,none⟩ z)):=fun x y z=>((BX.setCell HNL.out.2 _).setCell HNL.out.2 _).setCell HNL.out.2 _
         have HQ:Hid (w3.heap.size≤w3.heap.size∧∀ q,(Value.slice xa rk.length xc).ownBlock=some q→w3.heap.size≤q∧q≠w3.heap.size):=⟨HNL.out.2,fun q hq=>⟨(OX.out.lt q hq).1,by have h1:=(XL.out q hq).1;have h2:=HNL.out.1;omega⟩⟩
         have TS:Hid (∀ x y z,_):=fun x y z=>cl_store HN.out HNL.out.2 BX OX.out (fun e=>(HQ.out.2 _ e).2 rfl) x y z
         obtain⟨y0,y1,y2,yf⟩:=cli_cells HN.out
         have yf0:=yf 0
         have yf1:=yf 1
         have yf2:=yf 2
         clear yf))
       (try
        (have HN : Hid (w3l.heap[w3i.heap.size]? = some (.cells #[.slice none 0 0, .int .i64 0, .int .i64 0] 31 (0, 0))) := (bx.block _ (lt_of_block HN1_3.out)).trans HN1_3.out
         have HNL:Hid (w3i.heap.size<(w3k).heap.size∧w3.heap.size≤w3i.heap.size):=⟨lt_of_block HN1_3.out,BC1.size⟩
         have BXS:Hid (∀ x y z,Below w3.heap.size w3 (((w3l.setCell ⟨w3i.heap.size,0,none⟩ x).setCell ⟨w3i.heap.size,1,none⟩ y).setCell ⟨w3i.heap.size,2,none⟩ z)):=fun x y z=>((BX.setCell HNL.out.2 _).setCell HNL.out.2 _).setCell HNL.out.2 _
         have HQ:Hid (w3.heap.size≤w3i.heap.size∧∀ q,(Value.slice xa rk.length xc).ownBlock=some q→w3.heap.size≤q∧q≠w3i.heap.size):=⟨HNL.out.2,fun q hq=>⟨(OX.out.lt q hq).1,by have h1:=(XL.out q hq).1;have h2:=HNL.out.1;omega⟩⟩
         have TS:Hid (∀ x y z,_):=fun x y z=>cl_store HN.out HNL.out.2 BX OX.out (fun e=>(HQ.out.2 _ e).2 rfl) x y z
         obtain⟨y0,y1,y2,yf⟩:=cli_cells HN.out
         have yf0:=yf 0
         have yf1:=yf 1
         have yf2:=yf 2
         clear yf))
       (try
        (have HN : Hid (w3l.heap[w3j.heap.size]? = some (.cells #[.slice none 0 0, .int .i64 0, .int .i64 0] 31 (0, 0))) := (bx.block _ (lt_of_block HN2_3.out)).trans HN2_3.out
         have HNL:Hid (w3j.heap.size<(w3k).heap.size∧w3.heap.size≤w3j.heap.size):=⟨lt_of_block HN2_3.out,BC2.size⟩
         have BXS:Hid (∀ x y z,Below w3.heap.size w3 (((w3l.setCell ⟨w3j.heap.size,0,none⟩ x).setCell ⟨w3j.heap.size,1,none⟩ y).setCell ⟨w3j.heap.size,2,none⟩ z)):=fun x y z=>((BX.setCell HNL.out.2 _).setCell HNL.out.2 _).setCell HNL.out.2 _
         have HQ:Hid (w3.heap.size≤w3j.heap.size∧∀ q,(Value.slice xa rk.length xc).ownBlock=some q→w3.heap.size≤q∧q≠w3j.heap.size):=⟨HNL.out.2,fun q hq=>⟨(OX.out.lt q hq).1,by have h1:=(XL.out q hq).1;have h2:=HNL.out.1;omega⟩⟩
         have TS:Hid (∀ x y z,_):=fun x y z=>cl_store HN.out HNL.out.2 BX OX.out (fun e=>(HQ.out.2 _ e).2 rfl) x y z
         obtain⟨y0,y1,y2,yf⟩:=cli_cells HN.out
         have yf0:=yf 0
         have yf1:=yf 1
         have yf2:=yf 2
         clear yf))
       clear ox bx sW)
    | (go_at_call 10
       with_reducible refine (HTS.out (w3j.alloc (.cells #[.slice none 0 0,.int .i64 0,.int .i64 0] 31)) (HWB.out _ (BC2.alloc BC2.size (.cells #[.slice none 0 0,.int .i64 0,.int .i64 0] 31)))).mono ?_
       rintro e w3k ⟨g3,rfl,o3,b3⟩
       have BC3:Below w3.heap.size w3 w3k:=((BC2.alloc BC2.size (.cells #[.slice none 0 0,.int .i64 0,.int .i64 0] 31))).trans (b3.mono ((BC2.alloc BC2.size (.cells #[.slice none 0 0,.int .i64 0,.int .i64 0] 31))).size)
       have I3_3:Hid (IsStrs w3k (some ⟨g3,0,none⟩) ts):=(strs_own o3).2.2
       have I1_3:Hid (IsStrs w3k (some ⟨g1,0,none⟩) ls):=strs_later (strs_later I1_2.out ((Below.refl _ _).alloc (Nat.le_refl _) _)) b3
       have I2_3:Hid (IsVotes w3k (some ⟨g2,0,none⟩) vs):=(I2_2.out.later ((Below.refl _ _).alloc (Nat.le_refl _) _)).later b3
       have HN2_3:Hid (w3k.heap[w3j.heap.size]? = some (.cells #[.slice none 0 0,.int .i64 0,.int .i64 0] 31 (0,0))):=(b3.block _ (lt_of_block (heap_alloc_new w3j (.cells #[.slice none 0 0,.int .i64 0,.int .i64 0] 31)))).trans (heap_alloc_new w3j (.cells #[.slice none 0 0,.int .i64 0,.int .i64 0] 31))
       clear o3 b3)
    | (go_at_call 10
       with_reducible refine (HTS.out w3j (HWB.out _ BC2)).mono ?_
       rintro e w3k ⟨g3,rfl,o3,b3⟩
       have BC3:Below w3.heap.size w3 w3k:=(BC2).trans (b3.mono (BC2).size)
       have I3_3:Hid (IsStrs w3k (some ⟨g3,0,none⟩) ts):=(strs_own o3).2.2
       have I1_3:Hid (IsStrs w3k (some ⟨g1,0,none⟩) ls):=strs_later I1_2.out b3
       have I2_3:Hid (IsVotes w3k (some ⟨g2,0,none⟩) vs):=I2_2.out.later b3
       (try have HN0_3:Hid (w3k.heap[w3.heap.size]? = some (.cells #[.slice none 0 0,.int .i64 0,.int .i64 0] 31 (0,0))):=(b3.block _ (lt_of_block HN0_2.out)).trans HN0_2.out)
       (try have HN1_3:Hid (w3k.heap[w3i.heap.size]? = some (.cells #[.slice none 0 0,.int .i64 0,.int .i64 0] 31 (0,0))):=(b3.block _ (lt_of_block HN1_2.out)).trans HN1_2.out)
       clear o3 b3)
    | (go_at_call 9
       with_reducible refine (HTV.out (w3i.alloc (.cells #[.slice none 0 0,.int .i64 0,.int .i64 0] 31)) (HWB.out _ (BC1.alloc BC1.size (.cells #[.slice none 0 0,.int .i64 0,.int .i64 0] 31)))).mono ?_
       rintro e w3j ⟨g2,rfl,o2,b2⟩
       have BC2:Below w3.heap.size w3 w3j:=((BC1.alloc BC1.size (.cells #[.slice none 0 0,.int .i64 0,.int .i64 0] 31))).trans (b2.mono ((BC1.alloc BC1.size (.cells #[.slice none 0 0,.int .i64 0,.int .i64 0] 31))).size)
       have I2_2:Hid (IsVotes w3j (some ⟨g2,0,none⟩) vs):=o2.is
       have I1_2:Hid (IsStrs w3j (some ⟨g1,0,none⟩) ls):=strs_later (strs_later I1_1.out ((Below.refl _ _).alloc (Nat.le_refl _) _)) b2
       have HN1_2:Hid (w3j.heap[w3i.heap.size]? = some (.cells #[.slice none 0 0,.int .i64 0,.int .i64 0] 31 (0,0))):=(b2.block _ (lt_of_block (heap_alloc_new w3i (.cells #[.slice none 0 0,.int .i64 0,.int .i64 0] 31)))).trans (heap_alloc_new w3i (.cells #[.slice none 0 0,.int .i64 0,.int .i64 0] 31))
       clear o2 b2)
    | (go_at_call 9
       with_reducible refine (HTV.out w3i (HWB.out _ BC1)).mono ?_
       rintro e w3j ⟨g2,rfl,o2,b2⟩
       have BC2:Below w3.heap.size w3 w3j:=(BC1).trans (b2.mono (BC1).size)
       have I2_2:Hid (IsVotes w3j (some ⟨g2,0,none⟩) vs):=o2.is
       have I1_2:Hid (IsStrs w3j (some ⟨g1,0,none⟩) ls):=strs_later I1_1.out b2
       (try have HN0_2:Hid (w3j.heap[w3.heap.size]? = some (.cells #[.slice none 0 0,.int .i64 0,.int .i64 0] 31 (0,0))):=(b2.block _ (lt_of_block HN0_1.out)).trans HN0_1.out)
       clear o2 b2)
    | (go_at_call 8
       with_reducible refine (HTC.out (w3.alloc (.cells #[.slice none 0 0,.int .i64 0,.int .i64 0] 31)).drew (HWB.out _ BDa)).mono ?_
       rintro e w3i ⟨g1,rfl,o1,b1⟩
       have BC1:Below w3.heap.size w3 w3i:=(BDa).trans (b1.mono (BDa).size)
       have I1_1:Hid (IsStrs w3i (some ⟨g1,0,none⟩) ls):=(strs_own o1).2.2
       have HN0_1:Hid (w3i.heap[w3.heap.size]? = some (.cells #[.slice none 0 0,.int .i64 0,.int .i64 0] 31 (0,0))):=(b1.block _ (lt_of_block ZN.out)).trans ZN.out
       clear o1 b1)
    | (go_at_call 8
       with_reducible refine (HTC.out w3.drew (HWB.out _ BD)).mono ?_
       rintro e w3i ⟨g1,rfl,o1,b1⟩
       have BC1:Below w3.heap.size w3 w3i:=(BD).trans (b1.mono (BD).size)
       have I1_1:Hid (IsStrs w3i (some ⟨g1,0,none⟩) ls):=(strs_own o1).2.2
       clear o1 b1))
  all_goals go_wp2_with fail
  all_goals go_meet
  all_goals first
   | exact⟨_,xa,xc,rfl,rfl,rfl,(TS.out _ _ _).1,HQ.out,(TS.out _ _ _).2.2,(TS.out _ _ _).2.1⟩
   | exact⟨w3l.heap.size,xa,xc,rfl,rfl,rfl,heap_alloc_new w3l _,⟨HBX.out.size,fun q hq=>⟨(OX.out.lt q hq).1,by have:=(OX.out.lt q hq).2;omega⟩⟩,OX.out.alloc _,HBX.out.alloc HBX.out.size _⟩
 case rest =>
  obtain⟨bn,na,nc,rfl,rfl,rfl,HR0,HR1,HR2,HR3⟩:=hcut
  obtain⟨w4,rfl⟩:∃ W,W=wc:=⟨_,rfl⟩
  have b9:=HR3.out
  have aCt4:Hid (w4.heap[w.heap.size]? = some (.cells #[.slice a ls.length cap,.int .i64 s,.int .i64 n] 24 (0,0))):=(b9.block (w.heap.size) (lt_of_block aCt3.out)).trans aCt3.out
  clear aCt3
  have aTt4:Hid (w4.heap[w.heap.size+1]? = some (.cells #[.int .i64 ix,.string ⟨root.toArray⟩,.slice b vs.length cb] 27 (0,0))):=(b9.block (w.heap.size+1) (lt_of_block aTt3.out)).trans aTt3.out
  clear aTt3
  have Bt4:Below w.heap.size w w4:=Bt3.trans (b9.mono Bt3.size)
  clear Bt3
  have Rn0:Hid (w4.ownsRow w3.heap.size 9 1 (.slice na rk.length nc) rk.length (scells rk)):=HR2.out
  have Vn0:Hid (w4.heap[bn]? = some (.cells #[.slice na rk.length nc,.int .i64 rs,.int .i64 rn] 31 (0,0))):=HR0.out
  have Ln:Hid (w3.heap.size≤bn∧bn<w4.heap.size∧∀ q,(Value.slice na rk.length nc).ownBlock=some q→w3.heap.size≤q∧q≠bn∧q<w4.heap.size):=⟨HR1.out.1,lt_of_block HR0.out,fun q hq=>⟨(HR1.out.2 q hq).1,(HR1.out.2 q hq).2,(HR2.out.lt q hq).2⟩⟩
  clear HR0 HR1 HR2 HR3 SB BD BDa HWB ZN b9
  clear aC0 aC1 aC2
  clear aT0 aT1 aT2
  obtain⟨aC0,aC1,aC2,_⟩:=cli_cells aCt4.out
  obtain⟨aT0,aT1,aT2,_⟩:=cli_cells aTt4.out
  go_wp2_with fail
  refine (HTC.out _ Bt4).mono ?_
  rintro e w5 ⟨gx,rfl,o9,b9⟩
  clear aC0 aC1 aC2
  clear aT0 aT1 aT2
  have aCt5:Hid (w5.heap[w.heap.size]? = some (.cells #[.slice a ls.length cap,.int .i64 s,.int .i64 n] 24 (0,0))):=(b9.block (w.heap.size) (lt_of_block aCt4.out)).trans aCt4.out
  clear aCt4
  have aTt5:Hid (w5.heap[w.heap.size+1]? = some (.cells #[.int .i64 ix,.string ⟨root.toArray⟩,.slice b vs.length cb] 27 (0,0))):=(b9.block (w.heap.size+1) (lt_of_block aTt4.out)).trans aTt4.out
  clear aTt4
  have Rnt5:Hid (w5.ownsRow w3.heap.size 9 1 (.slice na rk.length nc) rk.length (scells rk)):=own_atQ Rn0.out fun q hq=>b9.block q (Rn0.out.lt q hq).2
  clear Rn0
  have Vnt5:Hid (w5.heap[bn]? = some (.cells #[.slice na rk.length nc,.int .i64 rs,.int .i64 rn] 31 (0,0))):=(b9.block (bn) (lt_of_block Vn0.out)).trans Vn0.out
  clear Vn0
  have Bt5:Below w.heap.size w w5:=Bt4.trans (b9.mono Bt4.size)
  clear Bt4
  have X1w5:Hid (w5.ownsRow w4.heap.size 9 1 (.slice (some ⟨gx,0,none⟩) ls.length ls.length) ls.length (scells ls)):=o9
  have LX1:Hid (w4.heap.size≤gx∧gx<w5.heap.size):=o9.lt gx (by simp[Value.ownBlock])
  clear o9 b9
  have Xt6:Below w5.heap.size w5 (w5.alloc (.cells #[.slice (some ⟨gx,0,none⟩) ls.length ls.length,.int .i64 s,.int .i64 n] 31)):=(Below.refl _ _).alloc (Nat.le_refl _) _
  have aCt7:Hid ((w5.alloc (.cells #[.slice (some ⟨gx,0,none⟩) ls.length ls.length,.int .i64 s,.int .i64 n] 31)).heap[w.heap.size]? = some (.cells #[.slice a ls.length cap,.int .i64 s,.int .i64 n] 24 (0,0))):=(Xt6.block (w.heap.size) (lt_of_block aCt5.out)).trans aCt5.out
  clear aCt5
  have aTt7:Hid ((w5.alloc (.cells #[.slice (some ⟨gx,0,none⟩) ls.length ls.length,.int .i64 s,.int .i64 n] 31)).heap[w.heap.size+1]? = some (.cells #[.int .i64 ix,.string ⟨root.toArray⟩,.slice b vs.length cb] 27 (0,0))):=(Xt6.block (w.heap.size+1) (lt_of_block aTt5.out)).trans aTt5.out
  clear aTt5
  have Rnt7:Hid ((w5.alloc (.cells #[.slice (some ⟨gx,0,none⟩) ls.length ls.length,.int .i64 s,.int .i64 n] 31)).ownsRow w3.heap.size 9 1 (.slice na rk.length nc) rk.length (scells rk)):=own_atQ Rnt5.out fun q hq=>Xt6.block q (Rnt5.out.lt q hq).2
  clear Rnt5
  have Vnt7:Hid ((w5.alloc (.cells #[.slice (some ⟨gx,0,none⟩) ls.length ls.length,.int .i64 s,.int .i64 n] 31)).heap[bn]? = some (.cells #[.slice na rk.length nc,.int .i64 rs,.int .i64 rn] 31 (0,0))):=(Xt6.block (bn) (lt_of_block Vnt5.out)).trans Vnt5.out
  clear Vnt5
  have X1t7:Hid ((w5.alloc (.cells #[.slice (some ⟨gx,0,none⟩) ls.length ls.length,.int .i64 s,.int .i64 n] 31)).ownsRow w4.heap.size 9 1 (.slice (some ⟨gx,0,none⟩) ls.length ls.length) ls.length (scells ls)):=own_atQ X1w5.out fun q hq=>Xt6.block q (X1w5.out.lt q hq).2
  clear X1w5
  have Bt7:Below w.heap.size w (w5.alloc (.cells #[.slice (some ⟨gx,0,none⟩) ls.length ls.length,.int .i64 s,.int .i64 n] 31)):=Bt5.trans (Xt6.mono Bt5.size)
  clear Bt5
  clear Xt6
  have bxt6:Hid ((w5.alloc (.cells #[.slice (some ⟨gx,0,none⟩) ls.length ls.length,.int .i64 s,.int .i64 n] 31)).heap[w5.heap.size]? = some (.cells #[.slice (some ⟨gx,0,none⟩) ls.length ls.length,.int .i64 s,.int .i64 n] 31 (0,0))):=heap_alloc_new w5 _
  obtain⟨aC0,aC1,aC2,_⟩:=cli_cells aCt7.out
  obtain⟨aT0,aT1,aT2,_⟩:=cli_cells aTt7.out
  go_wp2_with fail
  clear aC0 aC1 aC2
  clear aT0 aT1 aT2
  obtain⟨w6,hww6⟩:∃ W,W=(w5.alloc (.cells #[.slice (some ⟨gx,0,none⟩) ls.length ls.length,.int .i64 s,.int .i64 n] 31)):=⟨_,rfl⟩
  rw[←hww6] at ⊢ Bt7 aCt7 aTt7 Rnt7 Vnt7 X1t7 bxt6
  refine (HTV.out _ Bt7).mono ?_
  rintro e w7 ⟨gy,rfl,o9,b9⟩
  have aCt8:Hid (w7.heap[w.heap.size]? = some (.cells #[.slice a ls.length cap,.int .i64 s,.int .i64 n] 24 (0,0))):=(b9.block (w.heap.size) (lt_of_block aCt7.out)).trans aCt7.out
  clear aCt7
  have aTt8:Hid (w7.heap[w.heap.size+1]? = some (.cells #[.int .i64 ix,.string ⟨root.toArray⟩,.slice b vs.length cb] 27 (0,0))):=(b9.block (w.heap.size+1) (lt_of_block aTt7.out)).trans aTt7.out
  clear aTt7
  have Rnt8:Hid (w7.ownsRow w3.heap.size 9 1 (.slice na rk.length nc) rk.length (scells rk)):=own_atQ Rnt7.out fun q hq=>b9.block q (Rnt7.out.lt q hq).2
  clear Rnt7
  have Vnt8:Hid (w7.heap[bn]? = some (.cells #[.slice na rk.length nc,.int .i64 rs,.int .i64 rn] 31 (0,0))):=(b9.block (bn) (lt_of_block Vnt7.out)).trans Vnt7.out
  clear Vnt7
  have X1t8:Hid (w7.ownsRow w4.heap.size 9 1 (.slice (some ⟨gx,0,none⟩) ls.length ls.length) ls.length (scells ls)):=own_atQ X1t7.out fun q hq=>b9.block q (X1t7.out.lt q hq).2
  clear X1t7
  have bxt8:Hid (w7.heap[w5.heap.size]? = some (.cells #[.slice (some ⟨gx,0,none⟩) ls.length ls.length,.int .i64 s,.int .i64 n] 31 (0,0))):=(b9.block (w5.heap.size) (lt_of_block bxt6.out)).trans bxt6.out
  clear bxt6
  have Bt8:Below w.heap.size w w7:=Bt7.trans (b9.mono Bt7.size)
  clear Bt7
  have X2w7:Hid (VotesO w7 w6.heap.size w7.heap.size (some ⟨gy,0,none⟩) vs):=o9
  have LX2:Hid (w6.heap.size≤w7.heap.size):=b9.size
  clear o9 b9
  have Z6:Hid (w6.heap.size=w5.heap.size+1):=by rw[hww6,Hid];simp
  clear hww6
  have Xt9:Below w7.heap.size w7 (w7.alloc (.cells #[.int .i64 ix,.string ⟨root.toArray⟩,.slice (some ⟨gy,0,none⟩) vs.length vs.length] 37)):=(Below.refl _ _).alloc (Nat.le_refl _) _
  have aCt10:Hid ((w7.alloc (.cells #[.int .i64 ix,.string ⟨root.toArray⟩,.slice (some ⟨gy,0,none⟩) vs.length vs.length] 37)).heap[w.heap.size]? = some (.cells #[.slice a ls.length cap,.int .i64 s,.int .i64 n] 24 (0,0))):=(Xt9.block (w.heap.size) (lt_of_block aCt8.out)).trans aCt8.out
  clear aCt8
  have aTt10:Hid ((w7.alloc (.cells #[.int .i64 ix,.string ⟨root.toArray⟩,.slice (some ⟨gy,0,none⟩) vs.length vs.length] 37)).heap[w.heap.size+1]? = some (.cells #[.int .i64 ix,.string ⟨root.toArray⟩,.slice b vs.length cb] 27 (0,0))):=(Xt9.block (w.heap.size+1) (lt_of_block aTt8.out)).trans aTt8.out
  clear aTt8
  have Rnt10:Hid ((w7.alloc (.cells #[.int .i64 ix,.string ⟨root.toArray⟩,.slice (some ⟨gy,0,none⟩) vs.length vs.length] 37)).ownsRow w3.heap.size 9 1 (.slice na rk.length nc) rk.length (scells rk)):=own_atQ Rnt8.out fun q hq=>Xt9.block q (Rnt8.out.lt q hq).2
  clear Rnt8
  have Vnt10:Hid ((w7.alloc (.cells #[.int .i64 ix,.string ⟨root.toArray⟩,.slice (some ⟨gy,0,none⟩) vs.length vs.length] 37)).heap[bn]? = some (.cells #[.slice na rk.length nc,.int .i64 rs,.int .i64 rn] 31 (0,0))):=(Xt9.block (bn) (lt_of_block Vnt8.out)).trans Vnt8.out
  clear Vnt8
  have X1t10:Hid ((w7.alloc (.cells #[.int .i64 ix,.string ⟨root.toArray⟩,.slice (some ⟨gy,0,none⟩) vs.length vs.length] 37)).ownsRow w4.heap.size 9 1 (.slice (some ⟨gx,0,none⟩) ls.length ls.length) ls.length (scells ls)):=own_atQ X1t8.out fun q hq=>Xt9.block q (X1t8.out.lt q hq).2
  clear X1t8
  have bxt10:Hid ((w7.alloc (.cells #[.int .i64 ix,.string ⟨root.toArray⟩,.slice (some ⟨gy,0,none⟩) vs.length vs.length] 37)).heap[w5.heap.size]? = some (.cells #[.slice (some ⟨gx,0,none⟩) ls.length ls.length,.int .i64 s,.int .i64 n] 31 (0,0))):=(Xt9.block (w5.heap.size) (lt_of_block bxt8.out)).trans bxt8.out
  clear bxt8
  have X2t10:Hid (VotesO (w7.alloc (.cells #[.int .i64 ix,.string ⟨root.toArray⟩,.slice (some ⟨gy,0,none⟩) vs.length vs.length] 37)) w6.heap.size w7.heap.size (some ⟨gy,0,none⟩) vs):=X2w7.out.kept fun q _ hq=>Xt9.block q hq
  clear X2w7
  have Bt10:Below w.heap.size w (w7.alloc (.cells #[.int .i64 ix,.string ⟨root.toArray⟩,.slice (some ⟨gy,0,none⟩) vs.length vs.length] 37)):=Bt8.trans (Xt9.mono Bt8.size)
  clear Bt8
  clear Xt9
  have byt9:Hid ((w7.alloc (.cells #[.int .i64 ix,.string ⟨root.toArray⟩,.slice (some ⟨gy,0,none⟩) vs.length vs.length] 37)).heap[w7.heap.size]? = some (.cells #[.int .i64 ix,.string ⟨root.toArray⟩,.slice (some ⟨gy,0,none⟩) vs.length vs.length] 37 (0,0))):=heap_alloc_new w7 _
  obtain⟨aC0,aC1,aC2,_⟩:=cli_cells aCt10.out
  obtain⟨aT0,aT1,aT2,_⟩:=cli_cells aTt10.out
  go_wp2_with fail
  clear aC0 aC1 aC2
  clear aT0 aT1 aT2
  obtain⟨w8,hww8⟩:∃ W,W=(w7.alloc (.cells #[.int .i64 ix,.string ⟨root.toArray⟩,.slice (some ⟨gy,0,none⟩) vs.length vs.length] 37)):=⟨_,rfl⟩
  rw[←hww8] at ⊢ Bt10 aCt10 aTt10 Rnt10 Vnt10 X1t10 bxt10 X2t10 byt9
  refine (HTS.out _ Bt10).mono ?_
  rintro e w9 ⟨gp,rfl,o9,b9⟩
  have aCt11:Hid (w9.heap[w.heap.size]? = some (.cells #[.slice a ls.length cap,.int .i64 s,.int .i64 n] 24 (0,0))):=(b9.block (w.heap.size) (lt_of_block aCt10.out)).trans aCt10.out
  clear aCt10
  have aTt11:Hid (w9.heap[w.heap.size+1]? = some (.cells #[.int .i64 ix,.string ⟨root.toArray⟩,.slice b vs.length cb] 27 (0,0))):=(b9.block (w.heap.size+1) (lt_of_block aTt10.out)).trans aTt10.out
  clear aTt10
  have Rnt11:Hid (w9.ownsRow w3.heap.size 9 1 (.slice na rk.length nc) rk.length (scells rk)):=own_atQ Rnt10.out fun q hq=>b9.block q (Rnt10.out.lt q hq).2
  clear Rnt10
  have Vnt11:Hid (w9.heap[bn]? = some (.cells #[.slice na rk.length nc,.int .i64 rs,.int .i64 rn] 31 (0,0))):=(b9.block (bn) (lt_of_block Vnt10.out)).trans Vnt10.out
  clear Vnt10
  have X1t11:Hid (w9.ownsRow w4.heap.size 9 1 (.slice (some ⟨gx,0,none⟩) ls.length ls.length) ls.length (scells ls)):=own_atQ X1t10.out fun q hq=>b9.block q (X1t10.out.lt q hq).2
  clear X1t10
  have bxt11:Hid (w9.heap[w5.heap.size]? = some (.cells #[.slice (some ⟨gx,0,none⟩) ls.length ls.length,.int .i64 s,.int .i64 n] 31 (0,0))):=(b9.block (w5.heap.size) (lt_of_block bxt10.out)).trans bxt10.out
  clear bxt10
  have X2t11:Hid (VotesO w9 w6.heap.size w7.heap.size (some ⟨gy,0,none⟩) vs):=X2t10.out.kept fun q _ hq=>b9.block q hq
  clear X2t10
  have byt11:Hid (w9.heap[w7.heap.size]? = some (.cells #[.int .i64 ix,.string ⟨root.toArray⟩,.slice (some ⟨gy,0,none⟩) vs.length vs.length] 37 (0,0))):=(b9.block (w7.heap.size) (lt_of_block byt9.out)).trans byt9.out
  clear byt9
  have Bt11:Below w.heap.size w w9:=Bt10.trans (b9.mono Bt10.size)
  clear Bt10
  have X3w9:Hid (w9.ownsRow w8.heap.size 9 1 (.slice (some ⟨gp,0,none⟩) ts.length ts.length) ts.length (scells ts)):=o9
  have LX3:Hid (w8.heap.size≤gp∧gp<w9.heap.size):=o9.lt gp (by simp[Value.ownBlock])
  clear o9 b9
  have Z8:Hid (w8.heap.size=w7.heap.size+1):=by rw[hww8,Hid];simp
  clear hww8
  obtain⟨bx0,bx1,bx2,_⟩:=cli_cells bxt11.out
  obtain⟨by0,by1,by2,_⟩:=cli_cells byt11.out
  go_wp2_with fail
  refine (HK2.out gx gy gp _ (strs_own X1t11.out).2.2 X2t11.out.is (strs_own X3w9.out).2.2 (HET.out _ Bt11)).mono ?_
  rintro e wa ⟨ga,gc,rfl,n1,b9⟩
  clear bx0 bx1 bx2
  clear by0 by1 by2
  have aCt12:Hid (wa.heap[w.heap.size]? = some (.cells #[.slice a ls.length cap,.int .i64 s,.int .i64 n] 24 (0,0))):=(b9.block (w.heap.size) (lt_of_block aCt11.out)).trans aCt11.out
  clear aCt11
  have aTt12:Hid (wa.heap[w.heap.size+1]? = some (.cells #[.int .i64 ix,.string ⟨root.toArray⟩,.slice b vs.length cb] 27 (0,0))):=(b9.block (w.heap.size+1) (lt_of_block aTt11.out)).trans aTt11.out
  clear aTt11
  have Rnt12:Hid (wa.ownsRow w3.heap.size 9 1 (.slice na rk.length nc) rk.length (scells rk)):=own_atQ Rnt11.out fun q hq=>b9.block q (Rnt11.out.lt q hq).2
  clear Rnt11
  have Vnt12:Hid (wa.heap[bn]? = some (.cells #[.slice na rk.length nc,.int .i64 rs,.int .i64 rn] 31 (0,0))):=(b9.block (bn) (lt_of_block Vnt11.out)).trans Vnt11.out
  clear Vnt11
  have X1t12:Hid (wa.ownsRow w4.heap.size 9 1 (.slice (some ⟨gx,0,none⟩) ls.length ls.length) ls.length (scells ls)):=own_atQ X1t11.out fun q hq=>b9.block q (X1t11.out.lt q hq).2
  clear X1t11
  have bxt12:Hid (wa.heap[w5.heap.size]? = some (.cells #[.slice (some ⟨gx,0,none⟩) ls.length ls.length,.int .i64 s,.int .i64 n] 31 (0,0))):=(b9.block (w5.heap.size) (lt_of_block bxt11.out)).trans bxt11.out
  clear bxt11
  have X2t12:Hid (VotesO wa w6.heap.size w7.heap.size (some ⟨gy,0,none⟩) vs):=X2t11.out.kept fun q _ hq=>b9.block q hq
  clear X2t11
  have byt12:Hid (wa.heap[w7.heap.size]? = some (.cells #[.int .i64 ix,.string ⟨root.toArray⟩,.slice (some ⟨gy,0,none⟩) vs.length vs.length] 37 (0,0))):=(b9.block (w7.heap.size) (lt_of_block byt11.out)).trans byt11.out
  clear byt11
  have X3t12:Hid (wa.ownsRow w8.heap.size 9 1 (.slice (some ⟨gp,0,none⟩) ts.length ts.length) ts.length (scells ts)):=own_atQ X3w9.out fun q hq=>b9.block q (X3w9.out.lt q hq).2
  clear X3w9
  have Bt12:Below w.heap.size w wa:=Bt11.trans (b9.mono Bt11.size)
  clear Bt11
  have Rg0:Hid (wa.ownsRow w9.heap.size 9 1 (.slice ga rk.length gc) rk.length (scells rk)):=n1
  have Lg:Hid (w9.heap.size≤wa.heap.size∧∀ q,(Value.slice ga rk.length gc).ownBlock=some q→w9.heap.size≤q∧q<wa.heap.size):=⟨b9.size,fun q hq=>n1.lt q hq⟩
  clear n1 b9
  have Xt13:Below wa.heap.size wa (wa.alloc (.cells #[.slice ga rk.length gc,.int .i64 rs,.int .i64 rn] 31)):=(Below.refl _ _).alloc (Nat.le_refl _) _
  have aCt14:Hid ((wa.alloc (.cells #[.slice ga rk.length gc,.int .i64 rs,.int .i64 rn] 31)).heap[w.heap.size]? = some (.cells #[.slice a ls.length cap,.int .i64 s,.int .i64 n] 24 (0,0))):=(Xt13.block (w.heap.size) (lt_of_block aCt12.out)).trans aCt12.out
  clear aCt12
  have aTt14:Hid ((wa.alloc (.cells #[.slice ga rk.length gc,.int .i64 rs,.int .i64 rn] 31)).heap[w.heap.size+1]? = some (.cells #[.int .i64 ix,.string ⟨root.toArray⟩,.slice b vs.length cb] 27 (0,0))):=(Xt13.block (w.heap.size+1) (lt_of_block aTt12.out)).trans aTt12.out
  clear aTt12
  have Rnt14:Hid ((wa.alloc (.cells #[.slice ga rk.length gc,.int .i64 rs,.int .i64 rn] 31)).ownsRow w3.heap.size 9 1 (.slice na rk.length nc) rk.length (scells rk)):=own_atQ Rnt12.out fun q hq=>Xt13.block q (Rnt12.out.lt q hq).2
  clear Rnt12
  have Vnt14:Hid ((wa.alloc (.cells #[.slice ga rk.length gc,.int .i64 rs,.int .i64 rn] 31)).heap[bn]? = some (.cells #[.slice na rk.length nc,.int .i64 rs,.int .i64 rn] 31 (0,0))):=(Xt13.block (bn) (lt_of_block Vnt12.out)).trans Vnt12.out
  clear Vnt12
  have X1t14:Hid ((wa.alloc (.cells #[.slice ga rk.length gc,.int .i64 rs,.int .i64 rn] 31)).ownsRow w4.heap.size 9 1 (.slice (some ⟨gx,0,none⟩) ls.length ls.length) ls.length (scells ls)):=own_atQ X1t12.out fun q hq=>Xt13.block q (X1t12.out.lt q hq).2
  clear X1t12
  have bxt14:Hid ((wa.alloc (.cells #[.slice ga rk.length gc,.int .i64 rs,.int .i64 rn] 31)).heap[w5.heap.size]? = some (.cells #[.slice (some ⟨gx,0,none⟩) ls.length ls.length,.int .i64 s,.int .i64 n] 31 (0,0))):=(Xt13.block (w5.heap.size) (lt_of_block bxt12.out)).trans bxt12.out
  clear bxt12
  have X2t14:Hid (VotesO (wa.alloc (.cells #[.slice ga rk.length gc,.int .i64 rs,.int .i64 rn] 31)) w6.heap.size w7.heap.size (some ⟨gy,0,none⟩) vs):=X2t12.out.kept fun q _ hq=>Xt13.block q hq
  clear X2t12
  have byt14:Hid ((wa.alloc (.cells #[.slice ga rk.length gc,.int .i64 rs,.int .i64 rn] 31)).heap[w7.heap.size]? = some (.cells #[.int .i64 ix,.string ⟨root.toArray⟩,.slice (some ⟨gy,0,none⟩) vs.length vs.length] 37 (0,0))):=(Xt13.block (w7.heap.size) (lt_of_block byt12.out)).trans byt12.out
  clear byt12
  have X3t14:Hid ((wa.alloc (.cells #[.slice ga rk.length gc,.int .i64 rs,.int .i64 rn] 31)).ownsRow w8.heap.size 9 1 (.slice (some ⟨gp,0,none⟩) ts.length ts.length) ts.length (scells ts)):=own_atQ X3t12.out fun q hq=>Xt13.block q (X3t12.out.lt q hq).2
  clear X3t12
  have Rgt14:Hid ((wa.alloc (.cells #[.slice ga rk.length gc,.int .i64 rs,.int .i64 rn] 31)).ownsRow w9.heap.size 9 1 (.slice ga rk.length gc) rk.length (scells rk)):=own_atQ Rg0.out fun q hq=>Xt13.block q (Rg0.out.lt q hq).2
  clear Rg0
  have Bt14:Below w.heap.size w (wa.alloc (.cells #[.slice ga rk.length gc,.int .i64 rs,.int .i64 rn] 31)):=Bt12.trans (Xt13.mono Bt12.size)
  clear Bt12
  clear Xt13
  have Vgt13:Hid ((wa.alloc (.cells #[.slice ga rk.length gc,.int .i64 rs,.int .i64 rn] 31)).heap[wa.heap.size]? = some (.cells #[.slice ga rk.length gc,.int .i64 rs,.int .i64 rn] 31 (0,0))):=heap_alloc_new wa _
  obtain⟨Vg0,Vg1,Vg2,_⟩:=cli_cells Vgt13.out
  obtain⟨Vn0,Vn1,Vn2,_⟩:=cli_cells Vnt14.out
  go_wp2_with fail
  clear Vg0 Vg1 Vg2
  clear Vn0 Vn1 Vn2
  obtain⟨wb,hwwb⟩:∃ W,W=(wa.alloc (.cells #[.slice ga rk.length gc,.int .i64 rs,.int .i64 rn] 31)):=⟨_,rfl⟩
  rw[←hwwb] at ⊢ Bt14 aCt14 aTt14 Rnt14 Vnt14 X1t14 bxt14 X2t14 byt14 X3t14 Rgt14 Vgt13
  refine (eqClient_is ga na gc nc rk rs rn _ (by omega) (strs_own Rgt14.out).2.2 (strs_own Rnt14.out).2.2).mono ?_
  rintro e wc ⟨rfl,b9⟩
  have aCt15:Hid (wc.heap[w.heap.size]? = some (.cells #[.slice a ls.length cap,.int .i64 s,.int .i64 n] 24 (0,0))):=(b9.block (w.heap.size) (lt_of_block aCt14.out)).trans aCt14.out
  clear aCt14
  have aTt15:Hid (wc.heap[w.heap.size+1]? = some (.cells #[.int .i64 ix,.string ⟨root.toArray⟩,.slice b vs.length cb] 27 (0,0))):=(b9.block (w.heap.size+1) (lt_of_block aTt14.out)).trans aTt14.out
  clear aTt14
  have Rnt15:Hid (wc.ownsRow w3.heap.size 9 1 (.slice na rk.length nc) rk.length (scells rk)):=own_atQ Rnt14.out fun q hq=>b9.block q (Rnt14.out.lt q hq).2
  clear Rnt14
  have Vnt15:Hid (wc.heap[bn]? = some (.cells #[.slice na rk.length nc,.int .i64 rs,.int .i64 rn] 31 (0,0))):=(b9.block (bn) (lt_of_block Vnt14.out)).trans Vnt14.out
  clear Vnt14
  have X1t15:Hid (wc.ownsRow w4.heap.size 9 1 (.slice (some ⟨gx,0,none⟩) ls.length ls.length) ls.length (scells ls)):=own_atQ X1t14.out fun q hq=>b9.block q (X1t14.out.lt q hq).2
  clear X1t14
  have bxt15:Hid (wc.heap[w5.heap.size]? = some (.cells #[.slice (some ⟨gx,0,none⟩) ls.length ls.length,.int .i64 s,.int .i64 n] 31 (0,0))):=(b9.block (w5.heap.size) (lt_of_block bxt14.out)).trans bxt14.out
  clear bxt14
  have X2t15:Hid (VotesO wc w6.heap.size w7.heap.size (some ⟨gy,0,none⟩) vs):=X2t14.out.kept fun q _ hq=>b9.block q hq
  clear X2t14
  have byt15:Hid (wc.heap[w7.heap.size]? = some (.cells #[.int .i64 ix,.string ⟨root.toArray⟩,.slice (some ⟨gy,0,none⟩) vs.length vs.length] 37 (0,0))):=(b9.block (w7.heap.size) (lt_of_block byt14.out)).trans byt14.out
  clear byt14
  have X3t15:Hid (wc.ownsRow w8.heap.size 9 1 (.slice (some ⟨gp,0,none⟩) ts.length ts.length) ts.length (scells ts)):=own_atQ X3t14.out fun q hq=>b9.block q (X3t14.out.lt q hq).2
  clear X3t14
  have Rgt15:Hid (wc.ownsRow w9.heap.size 9 1 (.slice ga rk.length gc) rk.length (scells rk)):=own_atQ Rgt14.out fun q hq=>b9.block q (Rgt14.out.lt q hq).2
  clear Rgt14
  have Vgt15:Hid (wc.heap[wa.heap.size]? = some (.cells #[.slice ga rk.length gc,.int .i64 rs,.int .i64 rn] 31 (0,0))):=(b9.block (wa.heap.size) (lt_of_block Vgt13.out)).trans Vgt13.out
  clear Vgt13
  have Bt15:Below w.heap.size w wc:=Bt14.trans (b9.mono Bt14.size)
  clear Bt14
  clear b9
  have Zb:Hid (wb.heap.size=wa.heap.size+1):=by rw[hwwb,Hid];simp
  clear hwwb
  have SB:Hid (∀ W,Below wc.heap.size wc W→W.cell? ⟨w.heap.size,0,none⟩=some (.slice a ls.length cap)∧W.cell? ⟨w.heap.size,1,none⟩=some (.int .i64 s)∧W.cell? ⟨w.heap.size,2,none⟩=some (.int .i64 n)∧W.cell? ⟨w5.heap.size,0,none⟩=some (.slice (some ⟨gx,0,none⟩) ls.length ls.length)∧W.cell? ⟨w5.heap.size,1,none⟩=some (.int .i64 s)∧W.cell? ⟨w5.heap.size,2,none⟩=some (.int .i64 n)):=fun W hW=>by
   obtain⟨u0,u1,u2,_⟩:=cli_cells ((hW.block _ (lt_of_block aCt15.out)).trans aCt15.out)
   obtain⟨v0,v1,v2,_⟩:=cli_cells ((hW.block _ (lt_of_block bxt15.out)).trans bxt15.out)
   exact⟨u0,u1,u2,v0,v1,v2⟩
  have BD:Below wc.heap.size wc wc.drew:=⟨rfl,rfl,rfl,Nat.le_refl _,fun _ _=>rfl⟩
  have WD:Below w.heap.size w wc.drew:=Bt15.trans (BD.mono Bt15.size)
  go_wp2
  go_region_held3 (fun w'=>w'.cell? ⟨w.heap.size,0,none⟩=some (.slice a ls.length cap)∧w'.cell? ⟨w.heap.size,1,none⟩=some (.int .i64 s)∧w'.cell? ⟨w.heap.size,2,none⟩=some (.int .i64 n)∧w'.cell? ⟨w5.heap.size,0,none⟩=some (.slice (some ⟨gx,0,none⟩) ls.length ls.length)∧w'.cell? ⟨w5.heap.size,1,none⟩=some (.int .i64 s)∧w'.cell? ⟨w5.heap.size,2,none⟩=some (.int .i64 n)) (first | with_reducible exact SB.out _ BC2 | with_reducible exact SB.out _ BC1 | with_reducible exact SB.out _ BD)
   (first
    | (go_at_call 8
       with_reducible refine (HTC.out wc.drew WD).mono ?_
       rintro e wc1 ⟨v1,rfl,vo1,b7⟩
       have BC1:Below wc.heap.size wc wc1:=BD.trans (b7.mono BD.size)
       have J1:Hid (IsStrs wc1 (some ⟨gx,0,none⟩) ls∧IsStrs wc1 (some ⟨v1,0,none⟩) ls):=⟨strs_later (strs_own X1t15.out).2.2 BC1,(strs_own vo1).2.2⟩
       clear vo1 b7)
    | (go_at_call 12
       with_reducible refine (eqClient_is (some ⟨gx,0,none⟩) (some ⟨v1,0,none⟩) ls.length ls.length ls s n wc1 (by omega) J1.out.1 J1.out.2).mono ?_
       rintro e wd ⟨rfl,b8⟩
       have BC2:Below wc.heap.size wc wd:=BC1.trans (b8.mono BC1.size)
       clear b8))
  all_goals clear SB BD WD J1
  have b9:=BC2
  clear BC1 BC2
  have aCt16:Hid (wd.heap[w.heap.size]? = some (.cells #[.slice a ls.length cap,.int .i64 s,.int .i64 n] 24 (0,0))):=(b9.block (w.heap.size) (lt_of_block aCt15.out)).trans aCt15.out
  clear aCt15
  have aTt16:Hid (wd.heap[w.heap.size+1]? = some (.cells #[.int .i64 ix,.string ⟨root.toArray⟩,.slice b vs.length cb] 27 (0,0))):=(b9.block (w.heap.size+1) (lt_of_block aTt15.out)).trans aTt15.out
  clear aTt15
  have Rnt16:Hid (wd.ownsRow w3.heap.size 9 1 (.slice na rk.length nc) rk.length (scells rk)):=own_atQ Rnt15.out fun q hq=>b9.block q (Rnt15.out.lt q hq).2
  clear Rnt15
  have Vnt16:Hid (wd.heap[bn]? = some (.cells #[.slice na rk.length nc,.int .i64 rs,.int .i64 rn] 31 (0,0))):=(b9.block (bn) (lt_of_block Vnt15.out)).trans Vnt15.out
  clear Vnt15
  have X1t16:Hid (wd.ownsRow w4.heap.size 9 1 (.slice (some ⟨gx,0,none⟩) ls.length ls.length) ls.length (scells ls)):=own_atQ X1t15.out fun q hq=>b9.block q (X1t15.out.lt q hq).2
  clear X1t15
  have bxt16:Hid (wd.heap[w5.heap.size]? = some (.cells #[.slice (some ⟨gx,0,none⟩) ls.length ls.length,.int .i64 s,.int .i64 n] 31 (0,0))):=(b9.block (w5.heap.size) (lt_of_block bxt15.out)).trans bxt15.out
  clear bxt15
  have X2t16:Hid (VotesO wd w6.heap.size w7.heap.size (some ⟨gy,0,none⟩) vs):=X2t15.out.kept fun q _ hq=>b9.block q hq
  clear X2t15
  have byt16:Hid (wd.heap[w7.heap.size]? = some (.cells #[.int .i64 ix,.string ⟨root.toArray⟩,.slice (some ⟨gy,0,none⟩) vs.length vs.length] 37 (0,0))):=(b9.block (w7.heap.size) (lt_of_block byt15.out)).trans byt15.out
  clear byt15
  have X3t16:Hid (wd.ownsRow w8.heap.size 9 1 (.slice (some ⟨gp,0,none⟩) ts.length ts.length) ts.length (scells ts)):=own_atQ X3t15.out fun q hq=>b9.block q (X3t15.out.lt q hq).2
  clear X3t15
  have Rgt16:Hid (wd.ownsRow w9.heap.size 9 1 (.slice ga rk.length gc) rk.length (scells rk)):=own_atQ Rgt15.out fun q hq=>b9.block q (Rgt15.out.lt q hq).2
  clear Rgt15
  have Vgt16:Hid (wd.heap[wa.heap.size]? = some (.cells #[.slice ga rk.length gc,.int .i64 rs,.int .i64 rn] 31 (0,0))):=(b9.block (wa.heap.size) (lt_of_block Vgt15.out)).trans Vgt15.out
  clear Vgt15
  have Bt16:Below w.heap.size w wd:=Bt15.trans (b9.mono Bt15.size)
  clear Bt15
  clear b9
  have SB:Hid (∀ W,Below wd.heap.size wd W→W.cell? ⟨w.heap.size+1,0,none⟩=some (.int .i64 ix)∧W.cell? ⟨w.heap.size+1,1,none⟩=some (.string ⟨root.toArray⟩)∧W.cell? ⟨w.heap.size+1,2,none⟩=some (.slice b vs.length cb)∧W.cell? ⟨w7.heap.size,0,none⟩=some (.int .i64 ix)∧W.cell? ⟨w7.heap.size,1,none⟩=some (.string ⟨root.toArray⟩)∧W.cell? ⟨w7.heap.size,2,none⟩=some (.slice (some ⟨gy,0,none⟩) vs.length vs.length)):=fun W hW=>by
   obtain⟨u0,u1,u2,_⟩:=cli_cells ((hW.block _ (lt_of_block aTt16.out)).trans aTt16.out)
   obtain⟨v0,v1,v2,_⟩:=cli_cells ((hW.block _ (lt_of_block byt16.out)).trans byt16.out)
   exact⟨u0,u1,u2,v0,v1,v2⟩
  have BD:Below wd.heap.size wd wd.drew:=⟨rfl,rfl,rfl,Nat.le_refl _,fun _ _=>rfl⟩
  have WD:Below w.heap.size w wd.drew:=Bt16.trans (BD.mono Bt16.size)
  go_wp2
  go_region_held3 (fun w'=>w'.cell? ⟨w.heap.size+1,0,none⟩=some (.int .i64 ix)∧w'.cell? ⟨w.heap.size+1,1,none⟩=some (.string ⟨root.toArray⟩)∧w'.cell? ⟨w.heap.size+1,2,none⟩=some (.slice b vs.length cb)∧w'.cell? ⟨w7.heap.size,0,none⟩=some (.int .i64 ix)∧w'.cell? ⟨w7.heap.size,1,none⟩=some (.string ⟨root.toArray⟩)∧w'.cell? ⟨w7.heap.size,2,none⟩=some (.slice (some ⟨gy,0,none⟩) vs.length vs.length)) (first | with_reducible exact SB.out _ BC2 | with_reducible exact SB.out _ BC1 | with_reducible exact SB.out _ BD)
   (first
    | (go_at_call 9
       with_reducible refine (HTV.out wd.drew WD).mono ?_
       rintro e wd1 ⟨v1,rfl,vo1,b7⟩
       have BC1:Below wd.heap.size wd wd1:=BD.trans (b7.mono BD.size)
       have J1:Hid (IsVotes wd1 (some ⟨gy,0,none⟩) vs∧IsVotes wd1 (some ⟨v1,0,none⟩) vs):=⟨X2t16.out.is.later BC1,vo1.is⟩
       clear vo1 b7)
    | (go_at_call 13
       with_reducible refine (eqCert_is ix root (some ⟨gy,0,none⟩) (some ⟨v1,0,none⟩) vs.length vs.length vs wd1 (by omega) hms.out J1.out.1 J1.out.2).mono ?_
       rintro e we ⟨rfl,b8⟩
       have BC2:Below wd.heap.size wd we:=BC1.trans (b8.mono BC1.size)
       clear b8))
  all_goals clear SB BD WD J1
  have b9:=BC2
  clear BC1 BC2
  have aCt17:Hid (we.heap[w.heap.size]? = some (.cells #[.slice a ls.length cap,.int .i64 s,.int .i64 n] 24 (0,0))):=(b9.block (w.heap.size) (lt_of_block aCt16.out)).trans aCt16.out
  clear aCt16
  have aTt17:Hid (we.heap[w.heap.size+1]? = some (.cells #[.int .i64 ix,.string ⟨root.toArray⟩,.slice b vs.length cb] 27 (0,0))):=(b9.block (w.heap.size+1) (lt_of_block aTt16.out)).trans aTt16.out
  clear aTt16
  have Rnt17:Hid (we.ownsRow w3.heap.size 9 1 (.slice na rk.length nc) rk.length (scells rk)):=own_atQ Rnt16.out fun q hq=>b9.block q (Rnt16.out.lt q hq).2
  clear Rnt16
  have Vnt17:Hid (we.heap[bn]? = some (.cells #[.slice na rk.length nc,.int .i64 rs,.int .i64 rn] 31 (0,0))):=(b9.block (bn) (lt_of_block Vnt16.out)).trans Vnt16.out
  clear Vnt16
  have X1t17:Hid (we.ownsRow w4.heap.size 9 1 (.slice (some ⟨gx,0,none⟩) ls.length ls.length) ls.length (scells ls)):=own_atQ X1t16.out fun q hq=>b9.block q (X1t16.out.lt q hq).2
  clear X1t16
  have bxt17:Hid (we.heap[w5.heap.size]? = some (.cells #[.slice (some ⟨gx,0,none⟩) ls.length ls.length,.int .i64 s,.int .i64 n] 31 (0,0))):=(b9.block (w5.heap.size) (lt_of_block bxt16.out)).trans bxt16.out
  clear bxt16
  have X2t17:Hid (VotesO we w6.heap.size w7.heap.size (some ⟨gy,0,none⟩) vs):=X2t16.out.kept fun q _ hq=>b9.block q hq
  clear X2t16
  have byt17:Hid (we.heap[w7.heap.size]? = some (.cells #[.int .i64 ix,.string ⟨root.toArray⟩,.slice (some ⟨gy,0,none⟩) vs.length vs.length] 37 (0,0))):=(b9.block (w7.heap.size) (lt_of_block byt16.out)).trans byt16.out
  clear byt16
  have X3t17:Hid (we.ownsRow w8.heap.size 9 1 (.slice (some ⟨gp,0,none⟩) ts.length ts.length) ts.length (scells ts)):=own_atQ X3t16.out fun q hq=>b9.block q (X3t16.out.lt q hq).2
  clear X3t16
  have Rgt17:Hid (we.ownsRow w9.heap.size 9 1 (.slice ga rk.length gc) rk.length (scells rk)):=own_atQ Rgt16.out fun q hq=>b9.block q (Rgt16.out.lt q hq).2
  clear Rgt16
  have Vgt17:Hid (we.heap[wa.heap.size]? = some (.cells #[.slice ga rk.length gc,.int .i64 rs,.int .i64 rn] 31 (0,0))):=(b9.block (wa.heap.size) (lt_of_block Vgt16.out)).trans Vgt16.out
  clear Vgt16
  have Bt17:Below w.heap.size w we:=Bt16.trans (b9.mono Bt16.size)
  clear Bt16
  clear b9
  go_wp2_with fail
  refine (HTS.out _ Bt17).mono ?_
  rintro e wf ⟨gz,rfl,o9,b9⟩
  have aCt18:Hid (wf.heap[w.heap.size]? = some (.cells #[.slice a ls.length cap,.int .i64 s,.int .i64 n] 24 (0,0))):=(b9.block (w.heap.size) (lt_of_block aCt17.out)).trans aCt17.out
  clear aCt17
  have aTt18:Hid (wf.heap[w.heap.size+1]? = some (.cells #[.int .i64 ix,.string ⟨root.toArray⟩,.slice b vs.length cb] 27 (0,0))):=(b9.block (w.heap.size+1) (lt_of_block aTt17.out)).trans aTt17.out
  clear aTt17
  have Rnt18:Hid (wf.ownsRow w3.heap.size 9 1 (.slice na rk.length nc) rk.length (scells rk)):=own_atQ Rnt17.out fun q hq=>b9.block q (Rnt17.out.lt q hq).2
  clear Rnt17
  have Vnt18:Hid (wf.heap[bn]? = some (.cells #[.slice na rk.length nc,.int .i64 rs,.int .i64 rn] 31 (0,0))):=(b9.block (bn) (lt_of_block Vnt17.out)).trans Vnt17.out
  clear Vnt17
  have X1t18:Hid (wf.ownsRow w4.heap.size 9 1 (.slice (some ⟨gx,0,none⟩) ls.length ls.length) ls.length (scells ls)):=own_atQ X1t17.out fun q hq=>b9.block q (X1t17.out.lt q hq).2
  clear X1t17
  have bxt18:Hid (wf.heap[w5.heap.size]? = some (.cells #[.slice (some ⟨gx,0,none⟩) ls.length ls.length,.int .i64 s,.int .i64 n] 31 (0,0))):=(b9.block (w5.heap.size) (lt_of_block bxt17.out)).trans bxt17.out
  clear bxt17
  have X2t18:Hid (VotesO wf w6.heap.size w7.heap.size (some ⟨gy,0,none⟩) vs):=X2t17.out.kept fun q _ hq=>b9.block q hq
  clear X2t17
  have byt18:Hid (wf.heap[w7.heap.size]? = some (.cells #[.int .i64 ix,.string ⟨root.toArray⟩,.slice (some ⟨gy,0,none⟩) vs.length vs.length] 37 (0,0))):=(b9.block (w7.heap.size) (lt_of_block byt17.out)).trans byt17.out
  clear byt17
  have X3t18:Hid (wf.ownsRow w8.heap.size 9 1 (.slice (some ⟨gp,0,none⟩) ts.length ts.length) ts.length (scells ts)):=own_atQ X3t17.out fun q hq=>b9.block q (X3t17.out.lt q hq).2
  clear X3t17
  have Rgt18:Hid (wf.ownsRow w9.heap.size 9 1 (.slice ga rk.length gc) rk.length (scells rk)):=own_atQ Rgt17.out fun q hq=>b9.block q (Rgt17.out.lt q hq).2
  clear Rgt17
  have Vgt18:Hid (wf.heap[wa.heap.size]? = some (.cells #[.slice ga rk.length gc,.int .i64 rs,.int .i64 rn] 31 (0,0))):=(b9.block (wa.heap.size) (lt_of_block Vgt17.out)).trans Vgt17.out
  clear Vgt17
  have Bt18:Below w.heap.size w wf:=Bt17.trans (b9.mono Bt17.size)
  clear Bt17
  have o9s:=(strs_own o9).2.2
  clear o9 b9
  go_wp2_with fail
  refine (eqS_isN ts (some ⟨gp,0,none⟩) (some ⟨gz,0,none⟩) ts.length ts.length wf (by omega) (strs_own X3t18.out).2.2 o9s).mono ?_
  rintro e wf1 ⟨rfl,q9,hq9⟩
  have b9:Below wf.heap.size wf wf1:=by rw[hq9];exact⟨rfl,rfl,rfl,Nat.le_refl _,fun _ _=>rfl⟩
  clear hq9 o9s
  have aCt19:Hid (wf1.heap[w.heap.size]? = some (.cells #[.slice a ls.length cap,.int .i64 s,.int .i64 n] 24 (0,0))):=(b9.block (w.heap.size) (lt_of_block aCt18.out)).trans aCt18.out
  clear aCt18
  have aTt19:Hid (wf1.heap[w.heap.size+1]? = some (.cells #[.int .i64 ix,.string ⟨root.toArray⟩,.slice b vs.length cb] 27 (0,0))):=(b9.block (w.heap.size+1) (lt_of_block aTt18.out)).trans aTt18.out
  clear aTt18
  have Rnt19:Hid (wf1.ownsRow w3.heap.size 9 1 (.slice na rk.length nc) rk.length (scells rk)):=own_atQ Rnt18.out fun q hq=>b9.block q (Rnt18.out.lt q hq).2
  clear Rnt18
  have Vnt19:Hid (wf1.heap[bn]? = some (.cells #[.slice na rk.length nc,.int .i64 rs,.int .i64 rn] 31 (0,0))):=(b9.block (bn) (lt_of_block Vnt18.out)).trans Vnt18.out
  clear Vnt18
  have X1t19:Hid (wf1.ownsRow w4.heap.size 9 1 (.slice (some ⟨gx,0,none⟩) ls.length ls.length) ls.length (scells ls)):=own_atQ X1t18.out fun q hq=>b9.block q (X1t18.out.lt q hq).2
  clear X1t18
  have bxt19:Hid (wf1.heap[w5.heap.size]? = some (.cells #[.slice (some ⟨gx,0,none⟩) ls.length ls.length,.int .i64 s,.int .i64 n] 31 (0,0))):=(b9.block (w5.heap.size) (lt_of_block bxt18.out)).trans bxt18.out
  clear bxt18
  have X2t19:Hid (VotesO wf1 w6.heap.size w7.heap.size (some ⟨gy,0,none⟩) vs):=X2t18.out.kept fun q _ hq=>b9.block q hq
  clear X2t18
  have byt19:Hid (wf1.heap[w7.heap.size]? = some (.cells #[.int .i64 ix,.string ⟨root.toArray⟩,.slice (some ⟨gy,0,none⟩) vs.length vs.length] 37 (0,0))):=(b9.block (w7.heap.size) (lt_of_block byt18.out)).trans byt18.out
  clear byt18
  have X3t19:Hid (wf1.ownsRow w8.heap.size 9 1 (.slice (some ⟨gp,0,none⟩) ts.length ts.length) ts.length (scells ts)):=own_atQ X3t18.out fun q hq=>b9.block q (X3t18.out.lt q hq).2
  clear X3t18
  have Rgt19:Hid (wf1.ownsRow w9.heap.size 9 1 (.slice ga rk.length gc) rk.length (scells rk)):=own_atQ Rgt18.out fun q hq=>b9.block q (Rgt18.out.lt q hq).2
  clear Rgt18
  have Vgt19:Hid (wf1.heap[wa.heap.size]? = some (.cells #[.slice ga rk.length gc,.int .i64 rs,.int .i64 rn] 31 (0,0))):=(b9.block (wa.heap.size) (lt_of_block Vgt18.out)).trans Vgt18.out
  clear Vgt18
  have Bt19:Below w.heap.size w wf1:=Bt18.trans (b9.mono Bt18.size)
  clear Bt18
  clear b9
  have Z0:Hid (w.heap.size+1<w3.heap.size):=HZ0.out
  obtain⟨bx0,bx1,bx2,_⟩:=cli_cells bxt19.out
  have KM:=markClient_any ls s n (some ⟨gx,0,none⟩) ls.length ls.length _ 1 wf1 (by omega) (by omega) (by omega) X1t19.out
  obtain⟨k1,hk1⟩:∃ k1:Nat,k1=1+ls.length:=⟨_,rfl⟩
  have HK9:Hid ((1:Int)+(ls.length:Int)=(k1:Int)):=by rw[Hid];omega
  have hk1b:k1≤1048577:=by omega
  have hk1p:0<k1:=by omega
  clear hk1
  go_wp2_with fail
  refine KM.mono ?_
  rintro e wm ⟨he,_,G1⟩
  rw[show ((1:Nat):Int)+(ls.length:Int)=(k1:Int) from HK9.out] at he
  subst he
  clear bx0 bx1 bx2
  clear X1t19
  clear bxt19
  have aCt20:Hid (wm.heap[w.heap.size]? = some (.cells #[.slice a ls.length cap,.int .i64 s,.int .i64 n] 24 (0,0))):=(G1.block (w.heap.size) (lt_of_block aCt19.out) (fun e=>by have z1:=LX1.out;have z2:=LX2.out;have z3:=LX3.out;have z4:=Ln.out;have z5:=Lg.out;have z6:=Z6.out;have z8:=Z8.out;have zb:=Zb.out;have z0:=Z0.out;simp[Value.ownBlock] at e;omega)).trans aCt19.out
  clear aCt19
  have aTt20:Hid (wm.heap[w.heap.size+1]? = some (.cells #[.int .i64 ix,.string ⟨root.toArray⟩,.slice b vs.length cb] 27 (0,0))):=(G1.block (w.heap.size+1) (lt_of_block aTt19.out) (fun e=>by have z1:=LX1.out;have z2:=LX2.out;have z3:=LX3.out;have z4:=Ln.out;have z5:=Lg.out;have z6:=Z6.out;have z8:=Z8.out;have zb:=Zb.out;have z0:=Z0.out;simp[Value.ownBlock] at e;omega)).trans aTt19.out
  clear aTt19
  have Rnt20:Hid (wm.ownsRow w3.heap.size 9 1 (.slice na rk.length nc) rk.length (scells rk)):=own_atQ Rnt19.out fun q hq=>G1.block q (Rnt19.out.lt q hq).2 (fun e=>by have z1:=LX1.out;have z2:=LX2.out;have z3:=LX3.out;have z4:=Ln.out;have z5:=Lg.out;have z6:=Z6.out;have z8:=Z8.out;have zb:=Zb.out;have z0:=Z0.out;have h8:=z4.2.2 q hq;simp[Value.ownBlock] at e;omega)
  clear Rnt19
  have Vnt20:Hid (wm.heap[bn]? = some (.cells #[.slice na rk.length nc,.int .i64 rs,.int .i64 rn] 31 (0,0))):=(G1.block (bn) (lt_of_block Vnt19.out) (fun e=>by have z1:=LX1.out;have z2:=LX2.out;have z3:=LX3.out;have z4:=Ln.out;have z5:=Lg.out;have z6:=Z6.out;have z8:=Z8.out;have zb:=Zb.out;have z0:=Z0.out;simp[Value.ownBlock] at e;omega)).trans Vnt19.out
  clear Vnt19
  have X2t20:Hid (VotesO wm w6.heap.size w7.heap.size (some ⟨gy,0,none⟩) vs):=X2t19.out.kept fun q hq hq2=>G1.block q hq2 (fun e=>by have z1:=LX1.out;have z2:=LX2.out;have z3:=LX3.out;have z4:=Ln.out;have z5:=Lg.out;have z6:=Z6.out;have z8:=Z8.out;have zb:=Zb.out;have z0:=Z0.out;simp[Value.ownBlock] at e;omega)
  clear X2t19
  have byt20:Hid (wm.heap[w7.heap.size]? = some (.cells #[.int .i64 ix,.string ⟨root.toArray⟩,.slice (some ⟨gy,0,none⟩) vs.length vs.length] 37 (0,0))):=(G1.block (w7.heap.size) (lt_of_block byt19.out) (fun e=>by have z1:=LX1.out;have z2:=LX2.out;have z3:=LX3.out;have z4:=Ln.out;have z5:=Lg.out;have z6:=Z6.out;have z8:=Z8.out;have zb:=Zb.out;have z0:=Z0.out;simp[Value.ownBlock] at e;omega)).trans byt19.out
  clear byt19
  have X3t20:Hid (wm.ownsRow w8.heap.size 9 1 (.slice (some ⟨gp,0,none⟩) ts.length ts.length) ts.length (scells ts)):=own_atQ X3t19.out fun q hq=>G1.block q (X3t19.out.lt q hq).2 (fun e=>by have z1:=LX1.out;have z2:=LX2.out;have z3:=LX3.out;have z4:=Ln.out;have z5:=Lg.out;have z6:=Z6.out;have z8:=Z8.out;have zb:=Zb.out;have z0:=Z0.out;simp[Value.ownBlock] at hq;simp[Value.ownBlock] at e;omega)
  clear X3t19
  have Rgt20:Hid (wm.ownsRow w9.heap.size 9 1 (.slice ga rk.length gc) rk.length (scells rk)):=own_atQ Rgt19.out fun q hq=>G1.block q (Rgt19.out.lt q hq).2 (fun e=>by have z1:=LX1.out;have z2:=LX2.out;have z3:=LX3.out;have z4:=Ln.out;have z5:=Lg.out;have z6:=Z6.out;have z8:=Z8.out;have zb:=Zb.out;have z0:=Z0.out;have h8:=z5.2 q hq;simp[Value.ownBlock] at e;omega)
  clear Rgt19
  have Vgt20:Hid (wm.heap[wa.heap.size]? = some (.cells #[.slice ga rk.length gc,.int .i64 rs,.int .i64 rn] 31 (0,0))):=(G1.block (wa.heap.size) (lt_of_block Vgt19.out) (fun e=>by have z1:=LX1.out;have z2:=LX2.out;have z3:=LX3.out;have z4:=Ln.out;have z5:=Lg.out;have z6:=Z6.out;have z8:=Z8.out;have zb:=Zb.out;have z0:=Z0.out;simp[Value.ownBlock] at e;omega)).trans Vgt19.out
  clear Vgt19
  have Bt20:Below w.heap.size w wm:=Bt19.grown G1 Bt19.size (fun q hq=>by have z1:=LX1.out;have z2:=LX2.out;have z3:=LX3.out;have z4:=Ln.out;have z5:=Lg.out;have z6:=Z6.out;have z8:=Z8.out;have zb:=Zb.out;have z0:=Z0.out;simp[Value.ownBlock] at hq;omega)
  clear Bt19
  clear KM G1 HK9
  obtain⟨by0,by1,by2,_⟩:=cli_cells byt20.out
  have hsv:=HZ2.out
  have KM:=markCert_any ix root vs gy w6.heap.size w7.heap.size k1 wm hk1p (by omega) (vot_lo X2t20.out) (by have z1:=LX1.out;have z2:=LX2.out;have z3:=LX3.out;have z4:=Ln.out;have z5:=Lg.out;have z6:=Z6.out;have z8:=Z8.out;have zb:=Zb.out;have z0:=Z0.out;have h9:=lt_of_block Vgt20.out;omega) X2t20.out
  go_wp2_with fail
  refine KM.mono ?_
  rintro e wn ⟨k2,hk2p,hk2b,rfl,G2⟩
  clear KM
  clear by0 by1 by2
  clear X2t20
  clear byt20
  have aCt21:Hid (wn.heap[w.heap.size]? = some (.cells #[.slice a ls.length cap,.int .i64 s,.int .i64 n] 24 (0,0))):=(G2.block (w.heap.size) (lt_of_block aCt20.out) (by have z1:=LX1.out;have z2:=LX2.out;have z3:=LX3.out;have z4:=Ln.out;have z5:=Lg.out;have z6:=Z6.out;have z8:=Z8.out;have zb:=Zb.out;have z0:=Z0.out;omega)).trans aCt20.out
  clear aCt20
  have aTt21:Hid (wn.heap[w.heap.size+1]? = some (.cells #[.int .i64 ix,.string ⟨root.toArray⟩,.slice b vs.length cb] 27 (0,0))):=(G2.block (w.heap.size+1) (lt_of_block aTt20.out) (by have z1:=LX1.out;have z2:=LX2.out;have z3:=LX3.out;have z4:=Ln.out;have z5:=Lg.out;have z6:=Z6.out;have z8:=Z8.out;have zb:=Zb.out;have z0:=Z0.out;omega)).trans aTt20.out
  clear aTt20
  have Rnt21:Hid (wn.ownsRow w3.heap.size 9 1 (.slice na rk.length nc) rk.length (scells rk)):=own_atQ Rnt20.out fun q hq=>G2.block q (Rnt20.out.lt q hq).2 (by have z1:=LX1.out;have z2:=LX2.out;have z3:=LX3.out;have z4:=Ln.out;have z5:=Lg.out;have z6:=Z6.out;have z8:=Z8.out;have zb:=Zb.out;have z0:=Z0.out;have h8:=z4.2.2 q hq;omega)
  clear Rnt20
  have Vnt21:Hid (wn.heap[bn]? = some (.cells #[.slice na rk.length nc,.int .i64 rs,.int .i64 rn] 31 (0,0))):=(G2.block (bn) (lt_of_block Vnt20.out) (by have z1:=LX1.out;have z2:=LX2.out;have z3:=LX3.out;have z4:=Ln.out;have z5:=Lg.out;have z6:=Z6.out;have z8:=Z8.out;have zb:=Zb.out;have z0:=Z0.out;omega)).trans Vnt20.out
  clear Vnt20
  have X3t21:Hid (wn.ownsRow w8.heap.size 9 1 (.slice (some ⟨gp,0,none⟩) ts.length ts.length) ts.length (scells ts)):=own_atQ X3t20.out fun q hq=>G2.block q (X3t20.out.lt q hq).2 (by have z1:=LX1.out;have z2:=LX2.out;have z3:=LX3.out;have z4:=Ln.out;have z5:=Lg.out;have z6:=Z6.out;have z8:=Z8.out;have zb:=Zb.out;have z0:=Z0.out;simp[Value.ownBlock] at hq;omega)
  clear X3t20
  have Rgt21:Hid (wn.ownsRow w9.heap.size 9 1 (.slice ga rk.length gc) rk.length (scells rk)):=own_atQ Rgt20.out fun q hq=>G2.block q (Rgt20.out.lt q hq).2 (by have z1:=LX1.out;have z2:=LX2.out;have z3:=LX3.out;have z4:=Ln.out;have z5:=Lg.out;have z6:=Z6.out;have z8:=Z8.out;have zb:=Zb.out;have z0:=Z0.out;have h8:=z5.2 q hq;omega)
  clear Rgt20
  have Vgt21:Hid (wn.heap[wa.heap.size]? = some (.cells #[.slice ga rk.length gc,.int .i64 rs,.int .i64 rn] 31 (0,0))):=(G2.block (wa.heap.size) (lt_of_block Vgt20.out) (by have z1:=LX1.out;have z2:=LX2.out;have z3:=LX3.out;have z4:=Ln.out;have z5:=Lg.out;have z6:=Z6.out;have z8:=Z8.out;have zb:=Zb.out;have z0:=Z0.out;omega)).trans Vgt20.out
  clear Vgt20
  have Bt21:Below w.heap.size w wn:=below_out Bt20 G2 (by have z1:=LX1.out;have z2:=LX2.out;have z3:=LX3.out;have z4:=Ln.out;have z5:=Lg.out;have z6:=Z6.out;have z8:=Z8.out;have zb:=Zb.out;have z0:=Z0.out;omega) (Nat.le_refl _)
  clear Bt20
  clear G2 hk1b hk1p hsv
  have KM:=markS_any ts (.slice (some ⟨gp,0,none⟩) ts.length ts.length) _ k2 wn (by omega) hk2p (by omega) X3t21.out
  have hk0:¬ (k2:Int)+(ts.length:Int)<0:=by omega
  have hkb:decide ((k2:Int)+(ts.length:Int)<0)=false:=decide_eq_false hk0
  go_wp2_with fail
  refine KM.mono ?_
  rintro e wo ⟨rfl,_,G3⟩
  clear X3t21
  have aCt22:Hid (wo.heap[w.heap.size]? = some (.cells #[.slice a ls.length cap,.int .i64 s,.int .i64 n] 24 (0,0))):=(G3.block (w.heap.size) (lt_of_block aCt21.out) (fun e=>by have z1:=LX1.out;have z2:=LX2.out;have z3:=LX3.out;have z4:=Ln.out;have z5:=Lg.out;have z6:=Z6.out;have z8:=Z8.out;have zb:=Zb.out;have z0:=Z0.out;simp[Value.ownBlock] at e;omega)).trans aCt21.out
  clear aCt21
  have aTt22:Hid (wo.heap[w.heap.size+1]? = some (.cells #[.int .i64 ix,.string ⟨root.toArray⟩,.slice b vs.length cb] 27 (0,0))):=(G3.block (w.heap.size+1) (lt_of_block aTt21.out) (fun e=>by have z1:=LX1.out;have z2:=LX2.out;have z3:=LX3.out;have z4:=Ln.out;have z5:=Lg.out;have z6:=Z6.out;have z8:=Z8.out;have zb:=Zb.out;have z0:=Z0.out;simp[Value.ownBlock] at e;omega)).trans aTt21.out
  clear aTt21
  have Rnt22:Hid (wo.ownsRow w3.heap.size 9 1 (.slice na rk.length nc) rk.length (scells rk)):=own_atQ Rnt21.out fun q hq=>G3.block q (Rnt21.out.lt q hq).2 (fun e=>by have z1:=LX1.out;have z2:=LX2.out;have z3:=LX3.out;have z4:=Ln.out;have z5:=Lg.out;have z6:=Z6.out;have z8:=Z8.out;have zb:=Zb.out;have z0:=Z0.out;have h8:=z4.2.2 q hq;simp[Value.ownBlock] at e;omega)
  clear Rnt21
  have Vnt22:Hid (wo.heap[bn]? = some (.cells #[.slice na rk.length nc,.int .i64 rs,.int .i64 rn] 31 (0,0))):=(G3.block (bn) (lt_of_block Vnt21.out) (fun e=>by have z1:=LX1.out;have z2:=LX2.out;have z3:=LX3.out;have z4:=Ln.out;have z5:=Lg.out;have z6:=Z6.out;have z8:=Z8.out;have zb:=Zb.out;have z0:=Z0.out;simp[Value.ownBlock] at e;omega)).trans Vnt21.out
  clear Vnt21
  have Rgt22:Hid (wo.ownsRow w9.heap.size 9 1 (.slice ga rk.length gc) rk.length (scells rk)):=own_atQ Rgt21.out fun q hq=>G3.block q (Rgt21.out.lt q hq).2 (fun e=>by have z1:=LX1.out;have z2:=LX2.out;have z3:=LX3.out;have z4:=Ln.out;have z5:=Lg.out;have z6:=Z6.out;have z8:=Z8.out;have zb:=Zb.out;have z0:=Z0.out;have h8:=z5.2 q hq;simp[Value.ownBlock] at e;omega)
  clear Rgt21
  have Vgt22:Hid (wo.heap[wa.heap.size]? = some (.cells #[.slice ga rk.length gc,.int .i64 rs,.int .i64 rn] 31 (0,0))):=(G3.block (wa.heap.size) (lt_of_block Vgt21.out) (fun e=>by have z1:=LX1.out;have z2:=LX2.out;have z3:=LX3.out;have z4:=Ln.out;have z5:=Lg.out;have z6:=Z6.out;have z8:=Z8.out;have zb:=Zb.out;have z0:=Z0.out;simp[Value.ownBlock] at e;omega)).trans Vgt21.out
  clear Vgt21
  have Bt22:Below w.heap.size w wo:=Bt21.grown G3 Bt21.size (fun q hq=>by have z1:=LX1.out;have z2:=LX2.out;have z3:=LX3.out;have z4:=Ln.out;have z5:=Lg.out;have z6:=Z6.out;have z8:=Z8.out;have zb:=Zb.out;have z0:=Z0.out;simp[Value.ownBlock] at hq;omega)
  clear Bt21
  clear KM G3
  obtain⟨Vg0,Vg1,Vg2,_⟩:=cli_cells Vgt22.out
  obtain⟨Vn0,Vn1,Vn2,_⟩:=cli_cells Vnt22.out
  go_wp2_with fail
  refine (eqClient_is ga na gc nc rk rs rn _ (by omega) (strs_own Rgt22.out).2.2 (strs_own Rnt22.out).2.2).mono ?_
  rintro e wp ⟨rfl,b9⟩
  clear Vg0 Vg1 Vg2
  clear Vn0 Vn1 Vn2
  have aCt23:Hid (wp.heap[w.heap.size]? = some (.cells #[.slice a ls.length cap,.int .i64 s,.int .i64 n] 24 (0,0))):=(b9.block (w.heap.size) (lt_of_block aCt22.out)).trans aCt22.out
  clear aCt22
  have aTt23:Hid (wp.heap[w.heap.size+1]? = some (.cells #[.int .i64 ix,.string ⟨root.toArray⟩,.slice b vs.length cb] 27 (0,0))):=(b9.block (w.heap.size+1) (lt_of_block aTt22.out)).trans aTt22.out
  clear aTt22
  have Rnt23:Hid (wp.ownsRow w3.heap.size 9 1 (.slice na rk.length nc) rk.length (scells rk)):=own_atQ Rnt22.out fun q hq=>b9.block q (Rnt22.out.lt q hq).2
  clear Rnt22
  have Vnt23:Hid (wp.heap[bn]? = some (.cells #[.slice na rk.length nc,.int .i64 rs,.int .i64 rn] 31 (0,0))):=(b9.block (bn) (lt_of_block Vnt22.out)).trans Vnt22.out
  clear Vnt22
  have Rgt23:Hid (wp.ownsRow w9.heap.size 9 1 (.slice ga rk.length gc) rk.length (scells rk)):=own_atQ Rgt22.out fun q hq=>b9.block q (Rgt22.out.lt q hq).2
  clear Rgt22
  have Vgt23:Hid (wp.heap[wa.heap.size]? = some (.cells #[.slice ga rk.length gc,.int .i64 rs,.int .i64 rn] 31 (0,0))):=(b9.block (wa.heap.size) (lt_of_block Vgt22.out)).trans Vgt22.out
  clear Vgt22
  have Bt23:Below w.heap.size w wp:=Bt22.trans (b9.mono Bt22.size)
  clear Bt22
  clear b9
  clear hk0 hkb
  have hq0:¬ (1:Int)+(rk.length:Int)<0:=by omega
  have hqb:decide ((1:Int)+(rk.length:Int)<0)=false:=decide_eq_false hq0
  obtain⟨Vg0,Vg1,Vg2,_⟩:=cli_cells Vgt23.out
  have KM:=markClient_any rk rs rn ga rk.length gc _ 1 wp (by omega) (by omega) (by omega) Rgt23.out
  go_wp2_with fail
  refine KM.mono ?_
  rintro e wq ⟨rfl,om,G⟩
  clear Vg0 Vg1 Vg2
  clear Rgt23
  have aCt24:Hid (wq.heap[w.heap.size]? = some (.cells #[.slice a ls.length cap,.int .i64 s,.int .i64 n] 24 (0,0))):=(G.block (w.heap.size) (lt_of_block aCt23.out) (fun e=>by have z1:=LX1.out;have z2:=LX2.out;have z3:=LX3.out;have z4:=Ln.out;have z5:=Lg.out;have z6:=Z6.out;have z8:=Z8.out;have zb:=Zb.out;have z0:=Z0.out;have h9:=z5.2 _ e.symm;omega)).trans aCt23.out
  clear aCt23
  have aTt24:Hid (wq.heap[w.heap.size+1]? = some (.cells #[.int .i64 ix,.string ⟨root.toArray⟩,.slice b vs.length cb] 27 (0,0))):=(G.block (w.heap.size+1) (lt_of_block aTt23.out) (fun e=>by have z1:=LX1.out;have z2:=LX2.out;have z3:=LX3.out;have z4:=Ln.out;have z5:=Lg.out;have z6:=Z6.out;have z8:=Z8.out;have zb:=Zb.out;have z0:=Z0.out;have h9:=z5.2 _ e.symm;omega)).trans aTt23.out
  clear aTt23
  have Rnt24:Hid (wq.ownsRow w3.heap.size 9 1 (.slice na rk.length nc) rk.length (scells rk)):=own_atQ Rnt23.out fun q hq=>G.block q (Rnt23.out.lt q hq).2 (fun e=>by have z1:=LX1.out;have z2:=LX2.out;have z3:=LX3.out;have z4:=Ln.out;have z5:=Lg.out;have z6:=Z6.out;have z8:=Z8.out;have zb:=Zb.out;have z0:=Z0.out;have h8:=z4.2.2 q hq;have h9:=z5.2 _ e.symm;omega)
  clear Rnt23
  have Vnt24:Hid (wq.heap[bn]? = some (.cells #[.slice na rk.length nc,.int .i64 rs,.int .i64 rn] 31 (0,0))):=(G.block (bn) (lt_of_block Vnt23.out) (fun e=>by have z1:=LX1.out;have z2:=LX2.out;have z3:=LX3.out;have z4:=Ln.out;have z5:=Lg.out;have z6:=Z6.out;have z8:=Z8.out;have zb:=Zb.out;have z0:=Z0.out;have h9:=z5.2 _ e.symm;omega)).trans Vnt23.out
  clear Vnt23
  have Vgt24:Hid (wq.heap[wa.heap.size]? = some (.cells #[.slice ga rk.length gc,.int .i64 rs,.int .i64 rn] 31 (0,0))):=(G.block (wa.heap.size) (lt_of_block Vgt23.out) (fun e=>by have z1:=LX1.out;have z2:=LX2.out;have z3:=LX3.out;have z4:=Ln.out;have z5:=Lg.out;have z6:=Z6.out;have z8:=Z8.out;have zb:=Zb.out;have z0:=Z0.out;have h9:=z5.2 _ e.symm;omega)).trans Vgt23.out
  clear Vgt23
  have Bt24:Below w.heap.size w wq:=Bt23.grown G Bt23.size (fun q hq=>by have z1:=LX1.out;have z2:=LX2.out;have z3:=LX3.out;have z4:=Ln.out;have z5:=Lg.out;have z6:=Z6.out;have z8:=Z8.out;have zb:=Zb.out;have z0:=Z0.out;have h9:=z5.2 q hq;omega)
  clear Bt23
  have Rm0:Hid (wq.ownsRow w9.heap.size 9 1 (.slice ga rk.length gc) rk.length (scells (marks 1 rk.length))):=om
  clear KM G om
  obtain⟨Vg0,Vg1,Vg2,_⟩:=cli_cells Vgt24.out
  have KM:=heldClient_any rk.length rs rn ga rk.length gc _ 1 wq (by omega) (by omega) (by omega) Rm0.out
  go_wp2_with fail
  refine KM.mono ?_
  rintro e wr ⟨rfl,G⟩
  have b9:=below_of_grownN G
  clear Vg0 Vg1 Vg2
  have aCt25:Hid (wr.heap[w.heap.size]? = some (.cells #[.slice a ls.length cap,.int .i64 s,.int .i64 n] 24 (0,0))):=(b9.block (w.heap.size) (lt_of_block aCt24.out)).trans aCt24.out
  clear aCt24
  have aTt25:Hid (wr.heap[w.heap.size+1]? = some (.cells #[.int .i64 ix,.string ⟨root.toArray⟩,.slice b vs.length cb] 27 (0,0))):=(b9.block (w.heap.size+1) (lt_of_block aTt24.out)).trans aTt24.out
  clear aTt24
  have Rnt25:Hid (wr.ownsRow w3.heap.size 9 1 (.slice na rk.length nc) rk.length (scells rk)):=own_atQ Rnt24.out fun q hq=>b9.block q (Rnt24.out.lt q hq).2
  clear Rnt24
  have Vnt25:Hid (wr.heap[bn]? = some (.cells #[.slice na rk.length nc,.int .i64 rs,.int .i64 rn] 31 (0,0))):=(b9.block (bn) (lt_of_block Vnt24.out)).trans Vnt24.out
  clear Vnt24
  have Vgt25:Hid (wr.heap[wa.heap.size]? = some (.cells #[.slice ga rk.length gc,.int .i64 rs,.int .i64 rn] 31 (0,0))):=(b9.block (wa.heap.size) (lt_of_block Vgt24.out)).trans Vgt24.out
  clear Vgt24
  have Rmt25:Hid (wr.ownsRow w9.heap.size 9 1 (.slice ga rk.length gc) rk.length (scells (marks 1 rk.length))):=own_atQ Rm0.out fun q hq=>b9.block q (Rm0.out.lt q hq).2
  clear Rm0
  have Bt25:Below w.heap.size w wr:=Bt24.trans (b9.mono Bt24.size)
  clear Bt24
  clear KM G b9
  have SB:Hid (∀ W,Below wr.heap.size wr W→W.cell? ⟨w.heap.size,0,none⟩=some (.slice a ls.length cap)∧W.cell? ⟨w.heap.size,1,none⟩=some (.int .i64 s)∧W.cell? ⟨w.heap.size,2,none⟩=some (.int .i64 n)∧W.cell? ⟨w.heap.size+1,0,none⟩=some (.int .i64 ix)∧W.cell? ⟨w.heap.size+1,1,none⟩=some (.string ⟨root.toArray⟩)∧W.cell? ⟨w.heap.size+1,2,none⟩=some (.slice b vs.length cb)):=fun W hW=>by
   obtain⟨u0,u1,u2,_⟩:=cli_cells ((hW.block _ (lt_of_block aCt25.out)).trans aCt25.out)
   obtain⟨v0,v1,v2,_⟩:=cli_cells ((hW.block _ (lt_of_block aTt25.out)).trans aTt25.out)
   exact⟨u0,u1,u2,v0,v1,v2⟩
  have BD:Below wr.heap.size wr wr.drew:=⟨rfl,rfl,rfl,Nat.le_refl _,fun _ _=>rfl⟩
  have BDa:Below wr.heap.size wr (wr.alloc (.cells #[.slice none 0 0,.int .i64 0,.int .i64 0] 31)).drew:=⟨rfl,rfl,rfl,by show _≤(wr.alloc _).heap.size;simp,fun q hq=>Below.heap_alloc _ _ _ hq⟩
  have HWB:Hid (∀ W,Below wr.heap.size wr W→Below w.heap.size w W):=fun W h=>Bt25.trans (h.mono Bt25.size)
  have ZN:Hid ((wr.alloc (.cells #[.slice none 0 0,.int .i64 0,.int .i64 0] 31)).drew.heap[wr.heap.size]? = some (.cells #[.slice none 0 0,.int .i64 0,.int .i64 0] 31 (0,0))):=heap_alloc_new wr _
  obtain⟨aC0,aC1,aC2,_⟩:=cli_cells aCt25.out
  obtain⟨aT0,aT1,aT2,_⟩:=cli_cells aTt25.out
  go_wp2
  go_cut [22,23,24] from 137 (fun v6 v7 v8 wx=>∃ (bs:Nat) (xa:Option Addr) (xc:Nat),v6=.pointer (some ⟨bs,0,none⟩)∧v7=.int .i64 rcd∧v8=.string ⟨rvl.toArray⟩∧Hid (wx.heap[bs]? = some (.cells #[.slice xa rk.length xc,.int .i64 rs,.int .i64 rn] 31 (0,0)))∧Hid (wr.heap.size≤bs∧∀ q,(Value.slice xa rk.length xc).ownBlock=some q→wr.heap.size≤q∧q≠bs)∧Hid (wx.ownsRow wr.heap.size 9 1 (.slice xa rk.length xc) rk.length (scells rk))∧Hid (Below wr.heap.size wr wx))
  case first =>
   go_region_held3 (fun w'=>w'.cell? ⟨w.heap.size,0,none⟩=some (.slice a ls.length cap)∧w'.cell? ⟨w.heap.size,1,none⟩=some (.int .i64 s)∧w'.cell? ⟨w.heap.size,2,none⟩=some (.int .i64 n)∧w'.cell? ⟨w.heap.size+1,0,none⟩=some (.int .i64 ix)∧w'.cell? ⟨w.heap.size+1,1,none⟩=some (.string ⟨root.toArray⟩)∧w'.cell? ⟨w.heap.size+1,2,none⟩=some (.slice b vs.length cb)) (first | with_reducible exact SB.out _ BX | with_reducible exact SB.out _ (BXS.out _ _ _) | with_reducible exact SB.out _ BC3 | with_reducible exact SB.out _ BC2 | with_reducible exact SB.out _ BC1 | with_reducible exact SB.out _ BD | with_reducible exact SB.out _ BDa | with_reducible exact SB.out _ (BC3.alloc BC3.size _) | with_reducible exact SB.out _ (BC2.alloc BC2.size _) | with_reducible exact SB.out _ (BC1.alloc BC1.size _) | with_reducible exact SB.out _ (BX.alloc BX.size _) | go_keep)
    (first
     | (go_at_call 11
        with_reducible refine (HK2.out _ _ _ (wrk.alloc (.cells #[.slice none 0 0,.int .i64 0,.int .i64 0] 31)) (strs_later I1_3.out ((Below.refl _ _).alloc (Nat.le_refl _) _)) (I2_3.out.later ((Below.refl _ _).alloc (Nat.le_refl _) _)) (strs_later I3_3.out ((Below.refl _ _).alloc (Nat.le_refl _) _)) (HET.out _ (HWB.out _ (BC3.alloc BC3.size (.cells #[.slice none 0 0,.int .i64 0,.int .i64 0] 31))))).mono ?_
        rintro e wrl ⟨xa,xc,rfl,ox,bx⟩
        have sW:=((BC3.alloc BC3.size (.cells #[.slice none 0 0,.int .i64 0,.int .i64 0] 31))).size
        have BX:Below wr.heap.size wr wrl:=((BC3.alloc BC3.size (.cells #[.slice none 0 0,.int .i64 0,.int .i64 0] 31))).trans (bx.mono sW)
        have OX:Hid (wrl.ownsRow wr.heap.size 9 1 (.slice xa rk.length xc) rk.length (scells rk)):=ox.mono sW
        have HBX:Hid (Below wr.heap.size wr wrl):=BX
        have XL:Hid (∀ q,(Value.slice xa rk.length xc).ownBlock=some q→((wrk.alloc (.cells #[.slice none 0 0,.int .i64 0,.int .i64 0] 31))).heap.size≤q∧q<wrl.heap.size):=fun q hq=>ox.lt q hq
        have HN:Hid (wrl.heap[wrk.heap.size]? = some (.cells #[.slice none 0 0,.int .i64 0,.int .i64 0] 31 (0,0))):=(bx.block _ (lt_of_block (heap_alloc_new wrk (.cells #[.slice none 0 0,.int .i64 0,.int .i64 0] 31)))).trans (heap_alloc_new wrk (.cells #[.slice none 0 0,.int .i64 0,.int .i64 0] 31))
        have HNL:Hid (wrk.heap.size<((wrk.alloc (.cells #[.slice none 0 0,.int .i64 0,.int .i64 0] 31))).heap.size∧wr.heap.size≤wrk.heap.size):=⟨lt_of_block (heap_alloc_new wrk (.cells #[.slice none 0 0,.int .i64 0,.int .i64 0] 31)),BC3.size⟩
        have BXS:Hid (∀ x y z,Below wr.heap.size wr (((wrl.setCell ⟨wrk.heap.size,0,none⟩ x).setCell ⟨wrk.heap.size,1,none⟩ y).setCell ⟨wrk.heap.size,2,none⟩ z)):=fun x y z=>((BX.setCell HNL.out.2 _).setCell HNL.out.2 _).setCell HNL.out.2 _
        have HQ:Hid (wr.heap.size≤wrk.heap.size∧∀ q,(Value.slice xa rk.length xc).ownBlock=some q→wr.heap.size≤q∧q≠wrk.heap.size):=⟨HNL.out.2,fun q hq=>⟨(OX.out.lt q hq).1,by have h1:=(XL.out q hq).1;have h2:=HNL.out.1;omega⟩⟩
        have TS:Hid (∀ x y z,_):=fun x y z=>cl_store HN.out HNL.out.2 BX OX.out (fun e=>(HQ.out.2 _ e).2 rfl) x y z
        obtain⟨y0,y1,y2,yf⟩:=cli_cells HN.out
        have yf0:=yf 0
        have yf1:=yf 1
        have yf2:=yf 2
        clear yf
        clear ox bx sW)
     | (go_at_call 11
        with_reducible refine (HK2.out _ _ _ wrk I1_3.out I2_3.out I3_3.out (HET.out _ (HWB.out _ BC3))).mono ?_
        rintro e wrl ⟨xa,xc,rfl,ox,bx⟩
        have sW:=(BC3).size
        have BX:Below wr.heap.size wr wrl:=(BC3).trans (bx.mono sW)
        have OX:Hid (wrl.ownsRow wr.heap.size 9 1 (.slice xa rk.length xc) rk.length (scells rk)):=ox.mono sW
        have HBX:Hid (Below wr.heap.size wr wrl):=BX
        have XL:Hid (∀ q,(Value.slice xa rk.length xc).ownBlock=some q→(wrk).heap.size≤q∧q<wrl.heap.size):=fun q hq=>ox.lt q hq
        (try
         (have HN : Hid (wrl.heap[wr.heap.size]? = some (.cells #[.slice none 0 0, .int .i64 0, .int .i64 0] 31 (0, 0))) := (bx.block _ (lt_of_block HN0_3.out)).trans HN0_3.out
          have HNL:Hid (wr.heap.size<(wrk).heap.size∧wr.heap.size≤wr.heap.size):=⟨lt_of_block HN0_3.out,Nat.le_refl _⟩
          have BXS:Hid (∀ x y z,Below wr.heap.size wr (((wrl.setCell ⟨wr.heap.size,0,none⟩ x).setCell ⟨wr.heap.size,1,none⟩ y).setCell ⟨wr.heap.size,2,none⟩ z)):=fun x y z=>((BX.setCell HNL.out.2 _).setCell HNL.out.2 _).setCell HNL.out.2 _
          have HQ:Hid (wr.heap.size≤wr.heap.size∧∀ q,(Value.slice xa rk.length xc).ownBlock=some q→wr.heap.size≤q∧q≠wr.heap.size):=⟨HNL.out.2,fun q hq=>⟨(OX.out.lt q hq).1,by have h1:=(XL.out q hq).1;have h2:=HNL.out.1;omega⟩⟩
          have TS:Hid (∀ x y z,_):=fun x y z=>cl_store HN.out HNL.out.2 BX OX.out (fun e=>(HQ.out.2 _ e).2 rfl) x y z
          obtain⟨y0,y1,y2,yf⟩:=cli_cells HN.out
          have yf0:=yf 0
          have yf1:=yf 1
          have yf2:=yf 2
          clear yf))
        (try
         (have HN : Hid (wrl.heap[wri.heap.size]? = some (.cells #[.slice none 0 0, .int .i64 0, .int .i64 0] 31 (0, 0))) := (bx.block _ (lt_of_block HN1_3.out)).trans HN1_3.out
          have HNL:Hid (wri.heap.size<(wrk).heap.size∧wr.heap.size≤wri.heap.size):=⟨lt_of_block HN1_3.out,BC1.size⟩
          have BXS:Hid (∀ x y z,Below wr.heap.size wr (((wrl.setCell ⟨wri.heap.size,0,none⟩ x).setCell ⟨wri.heap.size,1,none⟩ y).setCell ⟨wri.heap.size,2,none⟩ z)):=fun x y z=>((BX.setCell HNL.out.2 _).setCell HNL.out.2 _).setCell HNL.out.2 _
          have HQ:Hid (wr.heap.size≤wri.heap.size∧∀ q,(Value.slice xa rk.length xc).ownBlock=some q→wr.heap.size≤q∧q≠wri.heap.size):=⟨HNL.out.2,fun q hq=>⟨(OX.out.lt q hq).1,by have h1:=(XL.out q hq).1;have h2:=HNL.out.1;omega⟩⟩
          have TS:Hid (∀ x y z,_):=fun x y z=>cl_store HN.out HNL.out.2 BX OX.out (fun e=>(HQ.out.2 _ e).2 rfl) x y z
          obtain⟨y0,y1,y2,yf⟩:=cli_cells HN.out
          have yf0:=yf 0
          have yf1:=yf 1
          have yf2:=yf 2
          clear yf))
        (try
         (have HN : Hid (wrl.heap[wrj.heap.size]? = some (.cells #[.slice none 0 0, .int .i64 0, .int .i64 0] 31 (0, 0))) := (bx.block _ (lt_of_block HN2_3.out)).trans HN2_3.out
          have HNL:Hid (wrj.heap.size<(wrk).heap.size∧wr.heap.size≤wrj.heap.size):=⟨lt_of_block HN2_3.out,BC2.size⟩
          have BXS:Hid (∀ x y z,Below wr.heap.size wr (((wrl.setCell ⟨wrj.heap.size,0,none⟩ x).setCell ⟨wrj.heap.size,1,none⟩ y).setCell ⟨wrj.heap.size,2,none⟩ z)):=fun x y z=>((BX.setCell HNL.out.2 _).setCell HNL.out.2 _).setCell HNL.out.2 _
          have HQ:Hid (wr.heap.size≤wrj.heap.size∧∀ q,(Value.slice xa rk.length xc).ownBlock=some q→wr.heap.size≤q∧q≠wrj.heap.size):=⟨HNL.out.2,fun q hq=>⟨(OX.out.lt q hq).1,by have h1:=(XL.out q hq).1;have h2:=HNL.out.1;omega⟩⟩
          have TS:Hid (∀ x y z,_):=fun x y z=>cl_store HN.out HNL.out.2 BX OX.out (fun e=>(HQ.out.2 _ e).2 rfl) x y z
          obtain⟨y0,y1,y2,yf⟩:=cli_cells HN.out
          have yf0:=yf 0
          have yf1:=yf 1
          have yf2:=yf 2
          clear yf))
        clear ox bx sW)
     | (go_at_call 10
        with_reducible refine (HTS.out (wrj.alloc (.cells #[.slice none 0 0,.int .i64 0,.int .i64 0] 31)) (HWB.out _ (BC2.alloc BC2.size (.cells #[.slice none 0 0,.int .i64 0,.int .i64 0] 31)))).mono ?_
        rintro e wrk ⟨g3,rfl,o3,b3⟩
        have BC3:Below wr.heap.size wr wrk:=((BC2.alloc BC2.size (.cells #[.slice none 0 0,.int .i64 0,.int .i64 0] 31))).trans (b3.mono ((BC2.alloc BC2.size (.cells #[.slice none 0 0,.int .i64 0,.int .i64 0] 31))).size)
        have I3_3:Hid (IsStrs wrk (some ⟨g3,0,none⟩) ts):=(strs_own o3).2.2
        have I1_3:Hid (IsStrs wrk (some ⟨g1,0,none⟩) ls):=strs_later (strs_later I1_2.out ((Below.refl _ _).alloc (Nat.le_refl _) _)) b3
        have I2_3:Hid (IsVotes wrk (some ⟨g2,0,none⟩) vs):=(I2_2.out.later ((Below.refl _ _).alloc (Nat.le_refl _) _)).later b3
        have HN2_3:Hid (wrk.heap[wrj.heap.size]? = some (.cells #[.slice none 0 0,.int .i64 0,.int .i64 0] 31 (0,0))):=(b3.block _ (lt_of_block (heap_alloc_new wrj (.cells #[.slice none 0 0,.int .i64 0,.int .i64 0] 31)))).trans (heap_alloc_new wrj (.cells #[.slice none 0 0,.int .i64 0,.int .i64 0] 31))
        clear o3 b3)
     | (go_at_call 10
        with_reducible refine (HTS.out wrj (HWB.out _ BC2)).mono ?_
        rintro e wrk ⟨g3,rfl,o3,b3⟩
        have BC3:Below wr.heap.size wr wrk:=(BC2).trans (b3.mono (BC2).size)
        have I3_3:Hid (IsStrs wrk (some ⟨g3,0,none⟩) ts):=(strs_own o3).2.2
        have I1_3:Hid (IsStrs wrk (some ⟨g1,0,none⟩) ls):=strs_later I1_2.out b3
        have I2_3:Hid (IsVotes wrk (some ⟨g2,0,none⟩) vs):=I2_2.out.later b3
        (try have HN0_3:Hid (wrk.heap[wr.heap.size]? = some (.cells #[.slice none 0 0,.int .i64 0,.int .i64 0] 31 (0,0))):=(b3.block _ (lt_of_block HN0_2.out)).trans HN0_2.out)
        (try have HN1_3:Hid (wrk.heap[wri.heap.size]? = some (.cells #[.slice none 0 0,.int .i64 0,.int .i64 0] 31 (0,0))):=(b3.block _ (lt_of_block HN1_2.out)).trans HN1_2.out)
        clear o3 b3)
     | (go_at_call 9
        with_reducible refine (HTV.out (wri.alloc (.cells #[.slice none 0 0,.int .i64 0,.int .i64 0] 31)) (HWB.out _ (BC1.alloc BC1.size (.cells #[.slice none 0 0,.int .i64 0,.int .i64 0] 31)))).mono ?_
        rintro e wrj ⟨g2,rfl,o2,b2⟩
        have BC2:Below wr.heap.size wr wrj:=((BC1.alloc BC1.size (.cells #[.slice none 0 0,.int .i64 0,.int .i64 0] 31))).trans (b2.mono ((BC1.alloc BC1.size (.cells #[.slice none 0 0,.int .i64 0,.int .i64 0] 31))).size)
        have I2_2:Hid (IsVotes wrj (some ⟨g2,0,none⟩) vs):=o2.is
        have I1_2:Hid (IsStrs wrj (some ⟨g1,0,none⟩) ls):=strs_later (strs_later I1_1.out ((Below.refl _ _).alloc (Nat.le_refl _) _)) b2
        have HN1_2:Hid (wrj.heap[wri.heap.size]? = some (.cells #[.slice none 0 0,.int .i64 0,.int .i64 0] 31 (0,0))):=(b2.block _ (lt_of_block (heap_alloc_new wri (.cells #[.slice none 0 0,.int .i64 0,.int .i64 0] 31)))).trans (heap_alloc_new wri (.cells #[.slice none 0 0,.int .i64 0,.int .i64 0] 31))
        clear o2 b2)
     | (go_at_call 9
        with_reducible refine (HTV.out wri (HWB.out _ BC1)).mono ?_
        rintro e wrj ⟨g2,rfl,o2,b2⟩
        have BC2:Below wr.heap.size wr wrj:=(BC1).trans (b2.mono (BC1).size)
        have I2_2:Hid (IsVotes wrj (some ⟨g2,0,none⟩) vs):=o2.is
        have I1_2:Hid (IsStrs wrj (some ⟨g1,0,none⟩) ls):=strs_later I1_1.out b2
        (try have HN0_2:Hid (wrj.heap[wr.heap.size]? = some (.cells #[.slice none 0 0,.int .i64 0,.int .i64 0] 31 (0,0))):=(b2.block _ (lt_of_block HN0_1.out)).trans HN0_1.out)
        clear o2 b2)
     | (go_at_call 8
        with_reducible refine (HTC.out (wr.alloc (.cells #[.slice none 0 0,.int .i64 0,.int .i64 0] 31)).drew (HWB.out _ BDa)).mono ?_
        rintro e wri ⟨g1,rfl,o1,b1⟩
        have BC1:Below wr.heap.size wr wri:=(BDa).trans (b1.mono (BDa).size)
        have I1_1:Hid (IsStrs wri (some ⟨g1,0,none⟩) ls):=(strs_own o1).2.2
        have HN0_1:Hid (wri.heap[wr.heap.size]? = some (.cells #[.slice none 0 0,.int .i64 0,.int .i64 0] 31 (0,0))):=(b1.block _ (lt_of_block ZN.out)).trans ZN.out
        clear o1 b1)
     | (go_at_call 8
        with_reducible refine (HTC.out wr.drew (HWB.out _ BD)).mono ?_
        rintro e wri ⟨g1,rfl,o1,b1⟩
        have BC1:Below wr.heap.size wr wri:=(BD).trans (b1.mono (BD).size)
        have I1_1:Hid (IsStrs wri (some ⟨g1,0,none⟩) ls):=(strs_own o1).2.2
        clear o1 b1))
   all_goals go_wp2_with fail
   all_goals go_meet
   all_goals first
    | exact⟨_,xa,xc,rfl,rfl,rfl,(TS.out _ _ _).1,HQ.out,(TS.out _ _ _).2.2,(TS.out _ _ _).2.1⟩
    | exact⟨wrl.heap.size,xa,xc,rfl,rfl,rfl,heap_alloc_new wrl _,⟨HBX.out.size,fun q hq=>⟨(OX.out.lt q hq).1,by have:=(OX.out.lt q hq).2;omega⟩⟩,OX.out.alloc _,HBX.out.alloc HBX.out.size _⟩
  case rest =>
   obtain⟨bh,ha,hc,rfl,rfl,rfl,HR0,HR1,HR2,HR3⟩:=hcut
   obtain⟨ws,rfl⟩:∃ W,W=wc:=⟨_,rfl⟩
   have b9:=HR3.out
   have aCt26:Hid (ws.heap[w.heap.size]? = some (.cells #[.slice a ls.length cap,.int .i64 s,.int .i64 n] 24 (0,0))):=(b9.block (w.heap.size) (lt_of_block aCt25.out)).trans aCt25.out
   clear aCt25
   have aTt26:Hid (ws.heap[w.heap.size+1]? = some (.cells #[.int .i64 ix,.string ⟨root.toArray⟩,.slice b vs.length cb] 27 (0,0))):=(b9.block (w.heap.size+1) (lt_of_block aTt25.out)).trans aTt25.out
   clear aTt25
   have Rnt26:Hid (ws.ownsRow w3.heap.size 9 1 (.slice na rk.length nc) rk.length (scells rk)):=own_atQ Rnt25.out fun q hq=>b9.block q (Rnt25.out.lt q hq).2
   clear Rnt25
   have Vnt26:Hid (ws.heap[bn]? = some (.cells #[.slice na rk.length nc,.int .i64 rs,.int .i64 rn] 31 (0,0))):=(b9.block (bn) (lt_of_block Vnt25.out)).trans Vnt25.out
   clear Vnt25
   have Vgt26:Hid (ws.heap[wa.heap.size]? = some (.cells #[.slice ga rk.length gc,.int .i64 rs,.int .i64 rn] 31 (0,0))):=(b9.block (wa.heap.size) (lt_of_block Vgt25.out)).trans Vgt25.out
   clear Vgt25
   have Rmt26:Hid (ws.ownsRow w9.heap.size 9 1 (.slice ga rk.length gc) rk.length (scells (marks 1 rk.length))):=own_atQ Rmt25.out fun q hq=>b9.block q (Rmt25.out.lt q hq).2
   clear Rmt25
   have Bt26:Below w.heap.size w ws:=Bt25.trans (b9.mono Bt25.size)
   clear Bt25
   have Rh0:Hid (ws.ownsRow wr.heap.size 9 1 (.slice ha rk.length hc) rk.length (scells rk)):=HR2.out
   have Vh0:Hid (ws.heap[bh]? = some (.cells #[.slice ha rk.length hc,.int .i64 rs,.int .i64 rn] 31 (0,0))):=HR0.out
   have Lh:Hid (wr.heap.size≤bh∧bh<ws.heap.size∧∀ q,(Value.slice ha rk.length hc).ownBlock=some q→wr.heap.size≤q∧q≠bh∧q<ws.heap.size):=⟨HR1.out.1,lt_of_block HR0.out,fun q hq=>⟨(HR1.out.2 q hq).1,(HR1.out.2 q hq).2,(HR2.out.lt q hq).2⟩⟩
   clear HR0 HR1 HR2 HR3 SB BD BDa HWB ZN b9
   clear aC0 aC1 aC2
   clear aT0 aT1 aT2
   obtain⟨Vh0,Vh1,Vh2,_⟩:=cli_cells Vh0.out
   obtain⟨Vn0,Vn1,Vn2,_⟩:=cli_cells Vnt26.out
   go_wp2_with fail
   refine (eqClient_is ha na hc nc rk rs rn _ (by omega) (strs_own Rh0.out).2.2 (strs_own Rnt26.out).2.2).mono ?_
   rintro e wt ⟨rfl,b9⟩
   clear Vh0 Vh1 Vh2
   clear Vn0 Vn1 Vn2
   have aCt27:Hid (wt.heap[w.heap.size]? = some (.cells #[.slice a ls.length cap,.int .i64 s,.int .i64 n] 24 (0,0))):=(b9.block (w.heap.size) (lt_of_block aCt26.out)).trans aCt26.out
   clear aCt26
   have aTt27:Hid (wt.heap[w.heap.size+1]? = some (.cells #[.int .i64 ix,.string ⟨root.toArray⟩,.slice b vs.length cb] 27 (0,0))):=(b9.block (w.heap.size+1) (lt_of_block aTt26.out)).trans aTt26.out
   clear aTt26
   have Rnt27:Hid (wt.ownsRow w3.heap.size 9 1 (.slice na rk.length nc) rk.length (scells rk)):=own_atQ Rnt26.out fun q hq=>b9.block q (Rnt26.out.lt q hq).2
   clear Rnt26
   have Vnt27:Hid (wt.heap[bn]? = some (.cells #[.slice na rk.length nc,.int .i64 rs,.int .i64 rn] 31 (0,0))):=(b9.block (bn) (lt_of_block Vnt26.out)).trans Vnt26.out
   clear Vnt26
   have Vgt27:Hid (wt.heap[wa.heap.size]? = some (.cells #[.slice ga rk.length gc,.int .i64 rs,.int .i64 rn] 31 (0,0))):=(b9.block (wa.heap.size) (lt_of_block Vgt26.out)).trans Vgt26.out
   clear Vgt26
   have Rmt27:Hid (wt.ownsRow w9.heap.size 9 1 (.slice ga rk.length gc) rk.length (scells (marks 1 rk.length))):=own_atQ Rmt26.out fun q hq=>b9.block q (Rmt26.out.lt q hq).2
   clear Rmt26
   have Rht27:Hid (wt.ownsRow wr.heap.size 9 1 (.slice ha rk.length hc) rk.length (scells rk)):=own_atQ Rh0.out fun q hq=>b9.block q (Rh0.out.lt q hq).2
   clear Rh0
   have Vht27:Hid (wt.heap[bh]? = some (.cells #[.slice ha rk.length hc,.int .i64 rs,.int .i64 rn] 31 (0,0))):=(b9.block (bh) (lt_of_block Vh0.out)).trans Vh0.out
   clear Vh0
   have Bt27:Below w.heap.size w wt:=Bt26.trans (b9.mono Bt26.size)
   clear Bt26
   clear b9
   obtain⟨Vg0,Vg1,Vg2,_⟩:=cli_cells Vgt27.out
   have KM:=heldClient_any rk.length rs rn ga rk.length gc _ 1 wt (by omega) (by omega) (by omega) Rmt27.out
   go_wp2_with fail
   refine KM.mono ?_
   rintro e wu ⟨rfl,G⟩
   have b9:=below_of_grownN G
   clear Vg0 Vg1 Vg2
   have aCt28:Hid (wu.heap[w.heap.size]? = some (.cells #[.slice a ls.length cap,.int .i64 s,.int .i64 n] 24 (0,0))):=(b9.block (w.heap.size) (lt_of_block aCt27.out)).trans aCt27.out
   clear aCt27
   have aTt28:Hid (wu.heap[w.heap.size+1]? = some (.cells #[.int .i64 ix,.string ⟨root.toArray⟩,.slice b vs.length cb] 27 (0,0))):=(b9.block (w.heap.size+1) (lt_of_block aTt27.out)).trans aTt27.out
   clear aTt27
   have Rnt28:Hid (wu.ownsRow w3.heap.size 9 1 (.slice na rk.length nc) rk.length (scells rk)):=own_atQ Rnt27.out fun q hq=>b9.block q (Rnt27.out.lt q hq).2
   clear Rnt27
   have Vnt28:Hid (wu.heap[bn]? = some (.cells #[.slice na rk.length nc,.int .i64 rs,.int .i64 rn] 31 (0,0))):=(b9.block (bn) (lt_of_block Vnt27.out)).trans Vnt27.out
   clear Vnt27
   have Vgt28:Hid (wu.heap[wa.heap.size]? = some (.cells #[.slice ga rk.length gc,.int .i64 rs,.int .i64 rn] 31 (0,0))):=(b9.block (wa.heap.size) (lt_of_block Vgt27.out)).trans Vgt27.out
   clear Vgt27
   have Rmt28:Hid (wu.ownsRow w9.heap.size 9 1 (.slice ga rk.length gc) rk.length (scells (marks 1 rk.length))):=own_atQ Rmt27.out fun q hq=>b9.block q (Rmt27.out.lt q hq).2
   clear Rmt27
   have Rht28:Hid (wu.ownsRow wr.heap.size 9 1 (.slice ha rk.length hc) rk.length (scells rk)):=own_atQ Rht27.out fun q hq=>b9.block q (Rht27.out.lt q hq).2
   clear Rht27
   have Vht28:Hid (wu.heap[bh]? = some (.cells #[.slice ha rk.length hc,.int .i64 rs,.int .i64 rn] 31 (0,0))):=(b9.block (bh) (lt_of_block Vht27.out)).trans Vht27.out
   clear Vht27
   have Bt28:Below w.heap.size w wu:=Bt27.trans (b9.mono Bt27.size)
   clear Bt27
   clear KM G b9
   go_wp2
   go_ret
   exact⟨rfl,Bt28⟩
theorem own:ownKnob Tryz.prog.godebug=none:=by kernel_rfl
theorem laidOut0:laidOutB Tryz.prog=true:=by kernel_rfl
theorem gN0 : Tryz.prog.globalNamed "loop.example/g00226/impl.errClient" = some 0 := by kernel_rfl
theorem gT0:(Tryz.prog.globals[0]?).map (·.type)=some 54:=by kernel_rfl
theorem gN1 : Tryz.prog.globalNamed "loop.example/g00226/impl.errCert" = some 1 := by kernel_rfl
theorem gT1:(Tryz.prog.globals[1]?).map (·.type)=some 54:=by kernel_rfl
theorem gN2 : Tryz.prog.globalNamed "loop.example/g00226/impl.errOld" = some 2 := by kernel_rfl
theorem gT2:(Tryz.prog.globals[2]?).map (·.type)=some 54:=by kernel_rfl
theorem gN3 : Tryz.prog.globalNamed "loop.example/g00226/impl.errProof" = some 3 := by kernel_rfl
theorem gT3:(Tryz.prog.globals[3]?).map (·.type)=some 54:=by kernel_rfl
theorem vars_len {H:Type} {enc:TypeId × Value→H} {W:World} {s:Nat→Bool}:∀ {ns:List String} {gs:List (DataW H)} {ps:List MemPlace},DataW.TrodVars enc Tryz.prog W s ns gs ps→gs.length=ns.length
 | [],[],_,_=>rfl
 | _ :: _,_ :: _,_,⟨_,_,_,_,_,_,_,_,_,_,hs,_⟩=>by simp[vars_len hs]
 | [],_ :: _,_,h=>h.elim
 | _ :: _,[],_,h=>h.elim
theorem door_met (os:Os) (args:Array Value):laidMetH Tryz.prog Rows.fnExactReadAtRow.laid ((World.doorLaid Tryz.prog 400 os).forCall (fun _ _=>0) ⟨#[],args,[]⟩).memory :=
 laidMetH_of_parts3 (fuel:=8) (laidMet_of_run' 8 (by kernel_rfl) (by kernel_rfl)) (by kernel_rfl) (by kernel_rfl)
set_option maxRecDepth 100000 in
theorem lifted (os:Os) (started:os.Started) (H:Type) (enc:TypeId × Value→H) :
 ReturnsInHanded {} Tryz.checked os 3 .any (fun w args=>(Rows.fnExactReadAtSpec.pre enc Tryz.prog Tryz.f3 [] false w args∧laidMetH Tryz.prog Rows.fnExactReadAtRow.laid w)∧sizedMet enc Tryz.prog Tryz.f3 (OpenSpec.ofChange Rows.fnExactReadAtSpec) false w args)
  (Rows.fnExactReadAtSpec.post enc Tryz.prog Tryz.f3 false true false false):=by
 refine returnsInHanded_of_change_and (C:=Tryz.checked) (X:=fun w _=>laidMetH Tryz.prog Rows.fnExactReadAtRow.laid w) (fun _ _ _ hh h=>h.of_heap hh) own started (by kernel_rfl) Tryz.func3
  (ChangeSpec.witness_shaped (enc:=enc) (C:=Tryz.checked) (os:=os) (X:=fun w _=>laidMetH Tryz.prog Rows.fnExactReadAtRow.laid w) false (World.doorLaid Tryz.prog 400 os) #[.agg #[.slice none 0 0,.int .i64 0,.int .i64 0],.agg #[.int .i64 0,.string ⟨#[]⟩,.slice none 0 0],.string ⟨#[]⟩,.slice none 0 0] 8 rfl (World.shaped_of_RefB (by kernel_rfl) (by kernel_rfl)) (by kernel_rfl) (by kernel_rfl) (by kernel_rfl) (door_met os _)) ?_
 intro W base args ds gs before hval0 hW _ _ hL _
 have hval:∀ (j:Nat) t v,Tryz.f3.params[j]? = some t→args[j]? = some v→Value.okWide Tryz.prog W .any base t v:=hval0
 have hW':=hW
 obtain⟨p,q,hA0,hV0,rfl,hfz,hnd⟩:=hW
 have hA:DataW.TrodAll enc Tryz.prog W 0 (fun _=>true) true Tryz.f3.params.toList args.toList ds p:=hA0
 have hV : DataW.TrodVars enc Tryz.prog W (fun _ => true) ["loop.example/g00226/impl.errClient", "loop.example/g00226/impl.errCert", "loop.example/g00226/impl.errOld", "loop.example/g00226/impl.errProof", "loop.example/g00226/impl.roundWords"] gs q := hV0
 rw[Tryz.params3] at hA hval
 obtain⟨v0,vs0,d0,ds0,p0,q0,hargs,rfl,rfl,h0,r0⟩:=trodAll_cons hA
 obtain⟨v1,vs1,d1,ds1,p1,q1,hargs1,rfl,rfl,h1,r1⟩:=trodAll_cons r0
 obtain⟨v2,vs2,d2,ds2,p2,q2,hargs2,rfl,rfl,h2,r2⟩:=trodAll_cons r1
 obtain⟨v3,vs3,d3,ds3,p3,q3,hargs3,rfl,rfl,h3,r3⟩:=trodAll_cons r2
 obtain⟨rfl,rfl,rfl⟩:=trodAll_nil r3
 obtain rfl:args=#[v0,v1,v2,v3]:=by cases args;simp_all
 have k0:=h0
 have k1:=h1
 have k2:=h2
 have k3:=h3
 have lt0:∀ x∈p0,x.block<W.heap.size:=by obtain⟨m,hm⟩:=k0;exact DataW.trod_lt m _ _ _ hm
 have lt1:∀ x∈p1,x.block<W.heap.size:=by obtain⟨m,hm⟩:=k1;exact DataW.trod_lt m _ _ _ hm
 have lt2:∀ x∈p2,x.block<W.heap.size:=by obtain⟨m,hm⟩:=k2;exact DataW.trod_lt m _ _ _ hm
 have lt3:∀ x∈p3,x.block<W.heap.size:=by obtain⟨m,hm⟩:=k3;exact DataW.trod_lt m _ _ _ hm
 obtain⟨a0,cap0,ls,s0,n0,hv0,hs,hl,hm⟩:=client_of (hval 0 24 v0 rfl rfl) h0
 obtain⟨ix,root,b0,cb,vs,hv1,hr,hvs,hvl,hvm⟩:=cert_of (hval 1 27 v1 rfl rfl) h1
 obtain⟨key,hv2,hkl⟩:∃ key:List UInt8,v2=.string ⟨key.toArray⟩∧key.length≤9223372036854775807:=by
  obtain⟨a9,rfl,_,_,w9⟩:=open_string Tryz.underlying9 (hval 2 9 v2 rfl rfl) h2
  unfold maxLen at w9
  exact⟨a9.data.toList,rfl,by rw[Array.length_toList];exact w9⟩
 obtain⟨b3,ts,c3,hv3,hm3,hs3,hl3⟩:∃ (a:Option Addr) (ls:List (List UInt8)) (cap:Nat),v3=.slice a ls.length cap∧(∀ l∈ls,l.length≤9223372036854775807)∧IsStrs W a ls∧ls.length≤9223372036854775807:=by
  obtain⟨a9,n9,c9,rfl⟩:=okWide_slice Tryz.underlying22 (hval 3 22 v3 rfl rfl)
  obtain⟨fuel,hf⟩:=h3
  exact strs_of (by simpa [Value.cells] using hf)
 obtain⟨e0,e1,e2,e3,hE,hT,x0,x1,x2,x3⟩:=errs4_of hL
 obtain⟨g1,g2,g3,g4,g5,rfl⟩:∃ g1 g2 g3 g4 g5,gs=[g1,g2,g3,g4,g5]:=by
  have hgl:=vars_len hV
  match gs,hgl with
  | [a,b,c,d,e],_=>exact⟨a,b,c,d,e,rfl⟩
 have y0:0<W.heap.size:=World.block_lt_of_cell? W _ hE.g0
 have y1:1<W.heap.size:=World.block_lt_of_cell? W _ hE.g1
 have y2:2<W.heap.size:=World.block_lt_of_cell? W _ hE.g2
 have y3:3<W.heap.size:=World.block_lt_of_cell? W _ hE.g3
 have hltv:∀ x∈q,x.block<W.heap.size:=fun x hx=>hW'.lt x (List.mem_append_right _ hx)
 clear hA0 hV0 hval0 hA hL
 subst hv0 hv1 hv2 hv3
 simp only[List.append_nil] at hW'
 refine (walk a0 cap0 ls s0 n0 ix root b0 cb vs key b3 c3 ts W e0 e1 e2 e3 hE hT hl hm hs hr hvl hvm hvs hkl hl3 hm3 hs3).mono fun e W' ⟨he,hB⟩=>?_
 subst he
 have hv' : DataW.TrodVars enc Tryz.prog W' (fun b => decide (b < W.heap.size)) ["loop.example/g00226/impl.errClient", "loop.example/g00226/impl.errCert", "loop.example/g00226/impl.errOld", "loop.example/g00226/impl.errProof", "loop.example/g00226/impl.roundWords"] [g1, g2, g3, g4, g5] q :=
  vars_step (x:=.iface 203 (.pointer (some e0))) gN0 gT0 trivial x0 (var?_belowN hB gN0 x0 y0) hV fun _ _ m0 hV=>vars_step (x:=.iface 203 (.pointer (some e1))) gN1 gT1 trivial x1 (var?_belowN hB gN1 x1 y1) hV fun _ _ m1 hV=>vars_step (x:=.iface 203 (.pointer (some e2))) gN2 gT2 trivial x2 (var?_belowN hB gN2 x2 y2) hV fun _ _ m2 hV=>vars_step (x:=.iface 203 (.pointer (some e3))) gN3 gT3 trivial x3 (var?_belowN hB gN3 x3 y3) hV fun _ _ m3 hV=>vars_tab hT hB (fun y hy=>hltv y (m0 y (m1 y (m2 y (m3 y hy))))) hV
 exact⟨_,rfl,_,_,_,[],_,_,hW',trodAll_mk1 (shut_bool Tryz.underlying4 _),(trodAll_cons_mk (Below.trod laidOut0 (by kernel_rfl) (of_decide_eq_true (by kernel_rfl)) k0 hB lt0) (trodAll_cons_mk (Below.trod laidOut0 (by kernel_rfl) (of_decide_eq_true (by kernel_rfl)) k1 hB lt1) (trodAll_cons_mk (Below.trod laidOut0 (by kernel_rfl) (of_decide_eq_true (by kernel_rfl)) k2 hB lt2) (trodAll_cons_mk (Below.trod laidOut0 (by kernel_rfl) (of_decide_eq_true (by kernel_rfl)) k3 hB lt3) trodAll_mk0)))),hv',hB.frame _,fun h=>by cases h⟩
theorem named0 : Tryz.prog.funcNamed "loop.example/g00226/laws.FnExactReadAt" = some 3 := by kernel_rfl
theorem closed0:joinedFacts Tryz.prog 3 Tryz.f3 Rows.fnExactReadAtSpec Rows.fnExactReadAtRow=true:=by
 unfold joinedFacts
 rw[seat_may,seat_lifts,seat_make]
 kernel_rfl
theorem inst0:Tryz.f3.isInstance Tryz.prog Rows.fnExactReadAtRow.origin Rows.fnExactReadAtRow.targs:=of_decide_eq_true (by kernel_rfl)
theorem wrap0:Tryz.f3.isWrapper Tryz.prog Rows.fnExactReadAtRow.wrapper Rows.fnExactReadAtRow.mainSum:=by unfold Func.isWrapper;first | (rw[if_pos (by decide +kernel)];kernel_rfl) | (rw[if_neg (by decide +kernel)];exact⟨rfl,rfl⟩)
theorem over:Rows.fnExactReadAtRow.holds Tryz.pinned (OpenSpec.ofChange Rows.fnExactReadAtSpec) :=
 OpenClaim.holds_of_wide 3 Tryz.f3 rfl rfl rfl rfl rfl rfl rfl ⟨rfl,rfl,rfl,rfl,rfl⟩ rfl rfl rfl rfl rfl named0 Tryz.func3 closed0 inst0 wrap0
  (fun os started H enc _=>lifted os started H enc)
theorem text0:Rows.fnExactReadAtRow.wfByText (OpenSpec.ofChange Rows.fnExactReadAtSpec)=true:=by kernel_rfl
theorem looks0:true=Tryz.prog.looks []:=by kernel_rfl
theorem goes0:false=Rows.fnExactReadAtRow.goesBy Tryz.prog:=by kernel_rfl
theorem wants0:([24,27,9,22].all fun u => !Tryz.prog.wantsStandIn u)=true:=by kernel_rfl
theorem card:Claim7.holds Tryz.pinned (.plain (OpenSpec.ofChange Rows.fnExactReadAtSpec)) Rows.fnExactReadAtCard :=
 Claim7.holds_tied_plain_at .later [] [.handle,.data,.sentinel,.sentinel,.sentinel,.sentinel] true (true,Rows.fnExactReadAtCard.stood.harness.2) true
  over (fun _ h=>by cases h) text0 (fun _ h=>by cases h) fnExactReadAt_row_tie rfl ⟨rfl,rfl⟩ seat_main rfl
  (fun f fn hf hfn => by
   obtain rfl:f=3:=Option.some.inj (named0.symm.trans hf) |>.symm
   obtain rfl:fn=Tryz.f3:=(Option.some.inj (Tryz.func3.symm.trans hfn)).symm
   exact⟨looks0,fun j t ht=>by
    rw[Tryz.params3] at ht
    have hm:t∈[24,27,9,22]:=by simpa using Array.mem_of_getElem? ht
    exact (show Tryz.prog.wantsStandIn t=false by simpa using List.all_eq_true.1 wants0 t hm)⟩)
  goes0
end Go.Proofs.YtllmclmcncolcaaGreatDoor.fnExactReadAt
namespace Go.Proofs.YtllmclmcncolcaaGreatDoor
theorem fnExactReadAt_holds:Rows.FnExactReadAtCardSaid:=fnExactReadAt.card
end Go.Proofs.YtllmclmcncolcaaGreatDoor
