import Derived.Test.YtkagiehbjnfabaaDoorSTag
import Derived.Test.YtkagiehbjnfabaaDoorMath2
namespace Go.Proofs.YtkagiehbjnfabaaDoor
open Go.RowKit
set_option linter.unusedVariables false
set_option maxRecDepth 100000 in
theorem l3Byte_any (n:Nat) (w:World) (hn:n<256) :
 Calls Tryd.prog 65 #[.int .i64 (n:Int)] w fun e w'=>e=.returned (.string ⟨(byteL n).toArray⟩)∧Below w.heap.size w w':=by
 obtain⟨c,hc⟩:∃ c,c=UInt8.ofNat n:=⟨_,rfl⟩
 have hcv:=lit_string [c] #[.int .u8 (n:Int)] (by simp only[bcells,List.map_cons,List.map_nil];rw[hc,byte_of];congr 2;omega) 1 rfl (by decide)
 have hb:byteL n=[c]:=by rw[hc];rfl
 have hn':(n:Int)<256:=by omega
 rw[hb]
 clear hc hb
 go_enter Tryd.func65,Tryd.ntmps65
 go_wp2
 go_ret
 exact⟨rfl,(Below.refl _ _).alloc (Nat.le_refl _) _⟩
theorem tag3_flatS (a b c:List UInt8) : [a,b,c].flatten.length=a.length+(b.length+c.length):=by simp
theorem stag3 (tag a b c:List UInt8) (w:World) (ht:tag.length≤1000) (hl:a.length+(b.length+c.length)≤10000) :
 Calls Tryd.prog 40 #[.string ⟨tag.toArray⟩,.slice (some ⟨w.heap.size,0,none⟩) 3 3] (w.alloc (.cells #[.string ⟨a.toArray⟩,.string ⟨b.toArray⟩,.string ⟨c.toArray⟩] 9)) fun e w'=>e=.returned (.string ⟨(tagL tag [a,b,c]).toArray⟩)∧Below w.heap.size w w':=by
 have K:=spec_tagged tag w.heap.size 3 [a,b,c] w.heap.size (w.alloc (.cells #[.string ⟨a.toArray⟩,.string ⟨b.toArray⟩,.string ⟨c.toArray⟩] 9)) (by omega) (by rw[tag3_flatS];simp;omega) (World.ownsRow_lit w #[.string ⟨a.toArray⟩,.string ⟨b.toArray⟩,.string ⟨c.toArray⟩] 3 (Nat.le_refl _) (by decide) rfl)
 exact K.mono fun e w' ⟨h1,h2⟩=>⟨h1,((Below.refl _ _).alloc (Nat.le_refl _) _).trans (h2.mono (by simp))⟩
theorem stag2 (tag a b:List UInt8) (w:World) (ht:tag.length≤1000) (hl:a.length+b.length≤10000) :
 Calls Tryd.prog 40 #[.string ⟨tag.toArray⟩,.slice (some ⟨w.heap.size,0,none⟩) 2 2] (w.alloc (.cells #[.string ⟨a.toArray⟩,.string ⟨b.toArray⟩] 9)) fun e w'=>e=.returned (.string ⟨(tagL tag [a,b]).toArray⟩)∧Below w.heap.size w w':=by
 have K:=spec_tagged tag w.heap.size 2 [a,b] w.heap.size (w.alloc (.cells #[.string ⟨a.toArray⟩,.string ⟨b.toArray⟩] 9)) (by omega) (by simp;omega) (World.ownsRow_lit w #[.string ⟨a.toArray⟩,.string ⟨b.toArray⟩] 2 (Nat.le_refl _) (by decide) rfl)
 exact K.mono fun e w' ⟨h1,h2⟩=>⟨h1,((Below.refl _ _).alloc (Nat.le_refl _) _).trans (h2.mono (by simp))⟩
theorem stag1 (tag a:List UInt8) (w:World) (ht:tag.length≤1000) (hl:a.length≤10000) :
 Calls Tryd.prog 40 #[.string ⟨tag.toArray⟩,.slice (some ⟨w.heap.size,0,none⟩) 1 1] (w.alloc (.cells #[.string ⟨a.toArray⟩] 9)) fun e w'=>e=.returned (.string ⟨(tagL tag [a]).toArray⟩)∧Below w.heap.size w w':=by
 have K:=spec_tagged tag w.heap.size 1 [a] w.heap.size (w.alloc (.cells #[.string ⟨a.toArray⟩] 9)) (by omega) (by simp;omega) (World.ownsRow_lit w #[.string ⟨a.toArray⟩] 1 (Nat.le_refl _) (by decide) rfl)
 exact K.mono fun e w' ⟨h1,h2⟩=>⟨h1,((Below.refl _ _).alloc (Nat.le_refl _) _).trans (h2.mono (by simp))⟩
set_option maxRecDepth 100000 in
set_option maxHeartbeats 400000 in
theorem l3Chain_any (c f n:Nat) (x:List UInt8) (w:World) (hc:c<256) (hn:f+n≤3) (hx:x.length=32) :
 Calls Tryd.prog 66 #[.string ⟨x.toArray⟩,.int .i64 (c:Int),.int .i64 (f:Int),.int .i64 (n:Int)] w fun e w'=>e=.returned (.string ⟨(chainL c f x n).toArray⟩)∧Below w.heap.size w w':=by
 have HX:Hid (∀ k,(chainL c f x k).length=32):=chainL_len c f x hx
 have HZ:Hid (chainL c f x 0=x):=rfl
 have HS:Hid (∀ k,chainL c f x (k+1)=tagL tChain [byteL c,byteL (f+k),chainL c f x k]):=fun k=>rfl
 go_enter Tryd.func66,Tryd.ntmps66
 go_wp2
 go_loopw [0,9] (fun v i wr=>∃ k:Nat,∃ y:List UInt8,k≤n∧i=.int .i64 ((f+k:Nat):Int)∧v=.string ⟨y.toArray⟩∧Hid (y=chainL c f x k)∧Below w.heap.size w wr) (fun _ i _=>f+n - (intOf i).toNat)
 case atStart=>exact⟨0,x,Nat.zero_le _,by simp,rfl,HZ.out.symm,Below.refl _ _⟩
 case round =>
  obtain⟨k,y,hk,rfl,rfl,HY,hbel⟩:=hrel
  have hsz:=hbel.size
  by_cases hlt:k<n
  · have hlt':(f:Int)+(k:Int)<(f:Int)+(n:Int):=by omega
    have hyl:y.length=32:=by rw[HY.out];exact HX.out k
    have HN:Hid (tagL tChain [byteL c,byteL (f+k),y]=chainL c f x (k+1)):=by rw[Hid,HS.out,←HY.out]
    have K1:=fun W=>l3Byte_any c W hc
    have K2:=fun W=>l3Byte_any (f+k) W (by omega)
    have K3:=fun W=>stag3 tChain (byteL c) (byteL (f+k)) y W (by decide) (by rw[hyl];simp[byteL])
    obtain⟨z,hz⟩:∃ z,z=tagL tChain [byteL c,byteL (f+k),y]:=⟨_,rfl⟩
    rw[←hz] at K3 HN
    obtain⟨p,hp⟩:∃ p,p=byteL c:=⟨_,rfl⟩
    obtain⟨q,hq⟩:∃ q,q=byteL (f+k):=⟨_,rfl⟩
    rw[←hp] at K1 K3
    rw[←hq] at K2 K3
    clear hz hp hq HY
    go_wp2_with fail
    refine (K1 _).mono ?_
    rintro e w1 ⟨rfl,b1⟩
    have B1:=hbel.trans (b1.mono hsz)
    clear b1 hbel
    go_wp2_with fail
    refine (K2 _).mono ?_
    rintro e w2 ⟨rfl,b2⟩
    have B2:=B1.trans (b2.mono B1.size)
    clear b2 B1
    go_wp2_with fail
    refine (K3 w2).mono ?_
    rintro e w3 ⟨rfl,b3⟩
    have B3:=B2.trans (b3.mono B2.size)
    clear b3 B2
    go_wp2
    go_roundw
    case rel=>exact⟨k+1,z,by omega,by go_num,rfl,HN,B3⟩
    case measure=>simp[intOf];omega
  · have hlt':¬ (f:Int)+(k:Int)<(f:Int)+(n:Int):=by omega
    have hkt:k=n:=by omega
    subst hkt
    go_wp2
    go_ret
    exact⟨by rw[HY.out];rfl,hbel⟩
set_option maxRecDepth 100000 in
theorem l1In_yes (n a b:Int) (w:World) (h:a≤n∧n≤b) :
 Calls Tryd.prog 31 #[.int .i64 n,.int .i64 a,.int .i64 b] w fun e w'=>e=.returned (.bool true)∧w'=w:=by
 obtain⟨h1,h2⟩:=h
 go_enter Tryd.func31,Tryd.ntmps31
 go_wp2
 go_ret
 exact⟨rfl,rfl⟩
set_option maxRecDepth 100000 in
theorem l1In_no (n a b:Int) (w:World) (h:¬ (a≤n∧n≤b)) :
 Calls Tryd.prog 31 #[.int .i64 n,.int .i64 a,.int .i64 b] w fun e w'=>e=.returned (.bool false)∧w'=w:=by
 by_cases h1:a≤n
 · have h2:¬ n≤b:=fun h2=>h ⟨h1,h2⟩
   clear h
   go_enter Tryd.func31,Tryd.ntmps31
   go_wp2
   go_ret
   exact⟨rfl,rfl⟩
 · clear h
   go_enter Tryd.func31,Tryd.ntmps31
   go_wp2
   go_ret
   exact⟨rfl,rfl⟩
def chainOkS (s:List UInt8) (c f n:Int):Prop:=s.length=32∧0≤c∧c≤18∧0≤f∧f≤3∧0≤n∧n≤3 - f
end Go.Proofs.YtkagiehbjnfabaaDoor
