/-
 Contracts: drawn keys, values, numbers, ops and batches.
-/
import Derived.Test.YtdcmncjoppmlhaaHurt
namespace Go.Proofs.Ytdcmncjoppmlhaa
open Go.RowKit
set_option linter.unusedVariables false
def shortB (m:Nat):Value→Bool
 | .string s=>decide (s.size≤m)
 | _=>false
theorem shortB_is (m:Nat) (v:Value) (h:shortB m v=true):∃ l:List UInt8,l.length≤m∧v=.string ⟨l.toArray⟩:=by
 match v,h with
 | .string s,h=>exact⟨s.data.toList,by simpa [shortB] using h,by rw[←ba_eq]⟩
theorem tabB_any {w w1:World} {rd m k:Nat} {cs:Array Value} {t:TypeId} (hrd:rd<w.heap.size) (hG:(w.alloc (.cells cs t)).grownBy w1 (some rd)) (hall:cs.all (shortB m)=true) (hk:k<cs.size) :
 ∃ l:List UInt8,l.length≤m∧w1.cell? ⟨w.heap.size,k,none⟩=some (.string ⟨l.toArray⟩):=by
 have hb:w1.heap[w.heap.size]? = some (.cells cs t):=by rw[hG.block _ (by simp) (by simp;omega)];exact heap_alloc_new w _
 have hv:=(Array.all_eq_true.1 hall) k hk
 obtain⟨l,hl,e⟩:=shortB_is m _ hv
 refine⟨l,hl,?_⟩
 rw[←e]
 simp[World.cell?,hb,hk]
theorem grown_setC {w w':World} {row:Option Nat} (h:w.grownBy w' row) (p:Addr) (v:Value) (hp:w.heap.size≤p.block):w.grownBy (w'.setCell p v) row :=
 ⟨h.os,h.tape,h.output,by simpa [World.setCell] using h.size,fun k hk hne=>(Below.heap_setCell _ _ _ _ (fun e=>by rw[e] at hk;omega)).trans (h.block k hk hne)⟩
set_option maxRecDepth 100000 in
set_option maxHeartbeats 400000 in
theorem key_any (rd n cap:Nat) (a:Option Addr) (w:World) (hn:n≤1048576) (h:Rd rd a n cap w) :
 Calls Try.prog 47 #[.pointer (some ⟨rd,0,none⟩)] w fun e w'=>∃ l:List UInt8,l.length≤5∧e=.returned (.string ⟨l.toArray⟩)∧Rd rd a n cap w'∧w.grownBy w' (some rd):=by
 have hrd:=h.lt
 have HR0:Hid (Rd rd a n cap w):=h
 clear h
 go_enter Try.func47,Try.ntmps47
 go_wp2_with fail
 refine (below_any rd n cap 12 12 a _ rfl (by omega) (by omega) hn (HR0.out.keptNone ((Below.refl _ _).alloc (Nat.le_refl _) _))).mono ?_
 rintro e w1 ⟨k,hk,rfl,hR,hG⟩
 obtain⟨l,hl,hc⟩:=tabB_any (m:=5) (k:=k) hrd hG (by decide +kernel) hk
 have HR:Hid (Rd rd a n cap w1):=hR
 have HG:Hid (w.grownBy w1 (some rd)):=(World.grownBy_alloc w _ (some rd)).trans hG
 have hk':(k:Int)<12:=by omega
 clear hR hG HR0
 go_wp2
 go_ret
 exact⟨l,hl,rfl,HR.out,HG.out⟩
set_option maxRecDepth 100000 in
set_option maxHeartbeats 400000 in
theorem value_any (rd n cap:Nat) (a:Option Addr) (w:World) (hn:n≤1048576) (h:Rd rd a n cap w) :
 Calls Try.prog 50 #[.pointer (some ⟨rd,0,none⟩)] w fun e w'=>∃ l:List UInt8,l.length≤5∧e=.returned (.string ⟨l.toArray⟩)∧Rd rd a n cap w'∧w.grownBy w' (some rd):=by
 have hrd:=h.lt
 have HR0:Hid (Rd rd a n cap w):=h
 clear h
 go_enter Try.func50,Try.ntmps50
 go_wp2_with fail
 refine (below_any rd n cap 6 6 a _ rfl (by omega) (by omega) hn (HR0.out.keptNone ((Below.refl _ _).alloc (Nat.le_refl _) _))).mono ?_
 rintro e w1 ⟨k,hk,rfl,hR,hG⟩
 obtain⟨l,hl,hc⟩:=tabB_any (m:=5) (k:=k) hrd hG (by decide +kernel) hk
 have HR:Hid (Rd rd a n cap w1):=hR
 have HG:Hid (w.grownBy w1 (some rd)):=(World.grownBy_alloc w _ (some rd)).trans hG
 have hk':(k:Int)<6:=by omega
 clear hR hG HR0
 go_wp2
 go_ret
 exact⟨l,hl,rfl,HR.out,HG.out⟩
set_option maxRecDepth 100000 in
set_option maxHeartbeats 400000 in
theorem wordB_any (rd n cap:Nat) (a:Option Addr) (w:World) (hn:n≤1048576) (h:Rd rd a n cap w) :
 Calls Try.prog 61 #[.pointer (some ⟨rd,0,none⟩)] w fun e w'=>∃ x:Int,e=.returned (.int .u64 x)∧Rd rd a n cap w'∧w.grownBy w' (some rd):=by
 go_enter Try.func61,Try.ntmps61
 go_wp2
 go_loopw [3,4] (fun v i wr=>∃ j:Nat,∃ x:Int,j≤8∧i=.int .i64 (j:Int)∧v=.int .u64 x∧Rd rd a n cap wr∧w.grownBy wr (some rd)) (fun _ i _=>8 - (intOf i).toNat)
 case atStart=>exact⟨0,0,by omega,rfl,rfl,h,World.grownBy.refl _ _⟩
 case round =>
  obtain⟨j,x,hj,rfl,rfl,hRr,hgr⟩:=hrel
  clear h
  by_cases hlt:j<8
  · have hlt':(j:Int)<8:=by omega
    have K:=next_any rd n cap a wr hn hRr
    have HG:Hid (w.grownBy wr (some rd)):=hgr
    clear hRr hgr
    go_wp2_with fail
    refine K.mono ?_
    rintro e w1 ⟨y,hy,rfl,hR1,hG1⟩
    have HR1:Hid (Rd rd a n cap w1):=hR1
    have HG1:Hid (w.grownBy w1 (some rd)):=grown_more HG.out hG1 (by simp)
    clear K hR1 hG1 HG
    go_wp2
    go_roundw
    case rel=>exact⟨j+1,_,by omega,by go_num,rfl,HR1.out,HG1.out⟩
    case measure=>simp[intOf];omega
  · have HRr:Hid (Rd rd a n cap wr):=hRr
    have HG:Hid (w.grownBy wr (some rd)):=hgr
    clear hRr hgr
    go_wp2
    go_ret
    exact⟨x,rfl,HRr.out,HG.out⟩
set_option maxRecDepth 100000 in
set_option maxHeartbeats 400000 in
theorem nearB_any (rd n cap:Nat) (a:Option Addr) (w:World) (hn:n≤1048576) (h:Rd rd a n cap w) :
 Calls Try.prog 57 #[.pointer (some ⟨rd,0,none⟩),.int .i64 1,.int .i64 1000000000000] w fun e w'=>∃ x:Int,e=.returned (.int .i64 x)∧Rd rd a n cap w'∧w.grownBy w' (some rd):=by
 have K1:=below_any rd n cap 8 8 a w rfl (by omega) (by omega) hn h
 clear h
 go_enter Try.func57,Try.ntmps57
 go_wp2_with fail
 refine K1.mono ?_
 rintro e w1 ⟨y,hy,rfl,hR1,hG1⟩
 have HR1:Hid (Rd rd a n cap w1):=hR1
 have HG1:Hid (w.grownBy w1 (some rd)):=hG1
 clear K1 hR1 hG1
 by_cases y0:y=0
 · subst y0
   go_wp2
   go_ret
   exact⟨_,rfl,HR1.out,HG1.out⟩
 · have y0':((y:Int) == 0)=false:=by simp only[beq_eq_false_iff_ne,ne_eq];omega
   by_cases y1:y=1
   · subst y1
     go_wp2
     go_ret
     exact⟨_,rfl,HR1.out,HG1.out⟩
   · have y1':((y:Int) == 1)=false:=by simp only[beq_eq_false_iff_ne,ne_eq];omega
     have K2:=wordB_any rd n cap a w1 hn HR1.out
     clear HR1
     go_wp2_with fail
     refine K2.mono ?_
     rintro e w2 ⟨z,rfl,hR2,hG2⟩
     have HR2:Hid (Rd rd a n cap w2):=hR2
     have HG2:Hid (w.grownBy w2 (some rd)):=grown_more HG1.out hG2 (by simp)
     clear K2 hR2 hG2 HG1
     go_wp2
     go_ret
     exact⟨_,rfl,HR2.out,HG2.out⟩
def isI64B:Value→Bool
 | .int .i64 _=>true
 | _=>false
theorem isI64B_is (v:Value) (h:isI64B v=true):∃ x,v=.int .i64 x:=by
 match v,h with
 | .int .i64 x,_=>exact⟨x,rfl⟩
theorem tabIB_any {w w1:World} {rd k:Nat} {cs:Array Value} {t:TypeId} (hrd:rd<w.heap.size) (hG:(w.alloc (.cells cs t)).grownBy w1 (some rd)) (hall:cs.all isI64B=true) (hk:k<cs.size) :
 ∃ x:Int,w1.cell? ⟨w.heap.size,k,none⟩=some (.int .i64 x):=by
 have hb:w1.heap[w.heap.size]? = some (.cells cs t):=by rw[hG.block _ (by simp) (by simp;omega)];exact heap_alloc_new w _
 have hv:=(Array.all_eq_true.1 hall) k hk
 obtain⟨x,e⟩:=isI64B_is _ hv
 refine⟨x,?_⟩
 rw[←e]
 simp[World.cell?,hb,hk]
set_option maxRecDepth 100000 in
set_option maxHeartbeats 400000 in
theorem offB_any (rd n cap:Nat) (a:Option Addr) (w:World) (hn:n≤1048576) (h:Rd rd a n cap w) :
 Calls Try.prog 52 #[.pointer (some ⟨rd,0,none⟩),.int .i64 1,.int .i64 1000000000000] w fun e w'=>∃ x:Int,e=.returned (.int .i64 x)∧Rd rd a n cap w'∧w.grownBy w' (some rd):=by
 have K1:=once_any rd n cap 24 24 a w rfl (by omega) (by omega) hn h
 clear h
 go_enter Try.func52,Try.ntmps52
 go_wp2_with fail
 refine K1.mono ?_
 rintro e w1 ⟨t,rfl,hR1,hG1⟩
 have HR1:Hid (Rd rd a n cap w1):=hR1
 have HG1:Hid (w.grownBy w1 (some rd)):=hG1
 have hrd:=hR1.lt
 clear K1 hR1 hG1
 cases t
 · have K2:=nearB_any rd n cap a w1 hn HR1.out
   clear HR1
   go_wp2_with fail
   refine K2.mono ?_
   rintro e w2 ⟨z,rfl,hR2,hG2⟩
   have HR2:Hid (Rd rd a n cap w2):=hR2
   have HG2:Hid (w.grownBy w2 (some rd)):=grown_more HG1.out hG2 (by simp)
   clear K2 hR2 hG2 HG1
   go_wp2
   go_ret
   exact⟨z,rfl,HR2.out,HG2.out⟩
 · go_wp2_with fail
   refine (below_any rd n cap 4 4 a _ rfl (by omega) (by omega) hn (HR1.out.keptNone ((Below.refl _ _).alloc (Nat.le_refl _) _))).mono ?_
   rintro e w2 ⟨k,hk,rfl,hR2,hG2⟩
   obtain⟨z,hc⟩:=tabIB_any (k:=k) hrd hG2 (by simp[isI64B]) (by simpa using hk)
   have HR2:Hid (Rd rd a n cap w2):=hR2
   have HG2:Hid (w.grownBy w2 (some rd)):=grown_more HG1.out ((World.grownBy_alloc w1 _ (some rd)).trans hG2) (by simp)
   have hk':(k:Int)<4:=by omega
   have hk0:(0:Int)≤(k:Int):=by omega
   clear hR2 hG2 HG1 HR1
   go_wp2
   go_ret
   exact⟨z,rfl,HR2.out,HG2.out⟩
end Go.Proofs.Ytdcmncjoppmlhaa
