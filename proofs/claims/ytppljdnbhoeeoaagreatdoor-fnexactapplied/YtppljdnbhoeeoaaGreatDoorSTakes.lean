/-
 Texts that are laid as one: STake, STakeL, STakeAll, SItems.
-/
import Derived.Test.YtppljdnbhoeeoaaGreatDoorMath2
import Derived.BigQuiet
namespace Go.Proofs.YtppljdnbhoeeoaaGreatDoor
open Go.RowKit
set_option linter.unusedVariables false
set_option maxHeartbeats 1000000
set_option maxRecDepth 100000
theorem za2a (w:World) :
 Calls Tryz.prog 157 #[.string ⟨#[]⟩] w fun e w'=>e=.returned (tkV none)∧Below w.heap.size w w':=by
 go_enter Tryz.func157,Tryz.ntmps157
 go_wp2
 exact bodyPost_ret (v:=.tuple #[.int .i64 0,.string ⟨#[]⟩,.string ⟨#[]⟩,.bool false]) (by simp[results,Tryz.results157,go_sem]) rfl ⟨rfl,Below.refl _ _⟩
theorem za2b (b:UInt8) (r:List UInt8) (w:World) (hb:b.toNat<128) (hr:r.length≤1048576) :
 Calls Tryz.prog 157 #[.string ⟨(b :: r).toArray⟩] w fun e w'=>e=.returned (tkV (some (1,[b],r)))∧Below w.heap.size w w':=by
 have hix:=zcq (P:=Tryz.prog) Tryz.underlying9 (b :: r) 0 0 rfl (by simp)
 have hs1:=zpf (P:=Tryz.prog) Tryz.underlying9 (b :: r) 1 1 rfl (by simp)
 have hs2:=zpg (P:=Tryz.prog) Tryz.underlying9 (b :: r) 1 1 rfl (by simp)
 simp only[List.getElem_cons_zero,List.take_succ_cons,List.take_zero,List.drop_succ_cons,List.drop_zero] at hix hs1 hs2
 have hb':(b.toNat:Int)<128:=by omega
 go_enter Tryz.func157,Tryz.ntmps157
 go_wp2
 go_quiet (fail)
 go_wp2
 exact bodyPost_ret (v:=.tuple #[.int .i64 1,.string ⟨#[b]⟩,.string ⟨r.toArray⟩,.bool true]) (by simp[results,Tryz.results157,go_sem]) rfl ⟨rfl,below_drewN (Below.refl _ _) _⟩
theorem zc5 (b:UInt8) (r:List UInt8) (x:Int) (h:(b.toNat:Int)=x) (W:World) :
 (Instr.index 9 (.string ⟨(b :: r).toArray⟩) (.int .i64 0)).run Tryz.prog W=.ok (.int .u8 x) W:=by
 rw[zcq (P:=Tryz.prog) Tryz.underlying9 (b :: r) 0 0 rfl (by simp) W]
 simp[h]
theorem zfo (b:UInt8) (r:List UInt8) (W:World) :
 (Instr.slice 9 (.string ⟨(b :: r).toArray⟩) (some (.int .i64 1)) none none).run Tryz.prog W=.ok (.string ⟨r.toArray⟩) W:=by
 rw[zpg (P:=Tryz.prog) Tryz.underlying9 (b :: r) 1 1 rfl (by simp) W]
 simp
theorem zra (b:UInt8) (r:List UInt8) (k n:Nat) (w:World) (hk:(k=1∧b.toNat=128+n)∨(k=2∧b.toNat=192+n)) (hn:n≤55) (hf:r.length<n) (hr:r.length≤1048576) :
 Calls Tryz.prog 157 #[.string ⟨(b :: r).toArray⟩] w fun e w'=>e=.returned (tkV none)∧Below w.heap.size w w':=by
 have hs2:=zfo b r
 have hf':(r.length:Int)<(n:Int):=by omega
 rcases hk with ⟨rfl,hb⟩ | ⟨rfl,hb⟩
 · have hix:=zc5 b r (128+(n:Int)) (by omega)
   clear hb
   go_enter Tryz.func157,Tryz.ntmps157
   go_wp2
   exact bodyPost_ret (v:=.tuple #[.int .i64 0,.string ⟨#[]⟩,.string ⟨#[]⟩,.bool false]) (by simp[results,Tryz.results157,go_sem]) rfl ⟨rfl,Below.refl _ _⟩
 · have hix:=zc5 b r (192+(n:Int)) (by omega)
   clear hb
   go_enter Tryz.func157,Tryz.ntmps157
   go_wp2
   exact bodyPost_ret (v:=.tuple #[.int .i64 0,.string ⟨#[]⟩,.string ⟨#[]⟩,.bool false]) (by simp[results,Tryz.results157,go_sem]) rfl ⟨rfl,Below.refl _ _⟩
theorem zrb (b:UInt8) (r:List UInt8) (k n:Nat) (w:World) (hk:(k=1∧b.toNat=128+n∧n≠1)∨(k=2∧b.toNat=192+n)) (hn:n≤55) (hf:n≤r.length) (hr:r.length≤1048576) :
 Calls Tryz.prog 157 #[.string ⟨(b :: r).toArray⟩] w fun e w'=>e=.returned (tkV (some (k,r.take n,r.drop n)))∧Below w.heap.size w w':=by
 have hs2:=zfo b r
 have hs3:=zdf r n hf
 have hs4:=zbg r n hf
 have hf':(n:Int)≤(r.length:Int):=by omega
 obtain⟨r1,hr1⟩:∃ r1,r1=r.take n:=⟨_,rfl⟩
 obtain⟨r2,hr2⟩:∃ r2,r2=r.drop n:=⟨_,rfl⟩
 rw[←hr1] at hs3 ⊢
 rw[←hr2] at hs4 ⊢
 clear hr1 hr2
 rcases hk with ⟨rfl,hb,h1⟩ | ⟨rfl,hb⟩
 · have hix:=zc5 b r (128+(n:Int)) (by omega)
   have h1':((128+(n:Int) - 128) == 1)=false:=by simp only[beq_eq_false_iff_ne,ne_eq];omega
   clear hb h1
   go_enter Tryz.func157,Tryz.ntmps157
   go_wp2
   go_quiet (fail)
   go_wp2
   exact bodyPost_ret (v:=.tuple #[.int .i64 1,.string ⟨r1.toArray⟩,.string ⟨r2.toArray⟩,.bool true]) (by simp[results,Tryz.results157,go_sem,hs3,hs4]) rfl ⟨rfl,below_drewN (Below.refl _ _) _⟩
 · have hix:=zc5 b r (192+(n:Int)) (by omega)
   clear hb
   go_enter Tryz.func157,Tryz.ntmps157
   go_wp2
   go_quiet (fail)
   go_wp2
   exact bodyPost_ret (v:=.tuple #[.int .i64 2,.string ⟨r1.toArray⟩,.string ⟨r2.toArray⟩,.bool true]) (by simp[results,Tryz.results157,go_sem,hs3,hs4]) rfl ⟨rfl,below_drewN (Below.refl _ _) _⟩
theorem za2c (b c:UInt8) (r:List UInt8) (w:World) (hb:b.toNat=129) (hr:r.length<1048576) :
 Calls Tryz.prog 157 #[.string ⟨(b :: c :: r).toArray⟩] w fun e w'=>e=.returned (tkV (if c.toNat<128 then none else some (1,[c],r)))∧Below w.heap.size w w':=by
 have hs2:=zfo b (c :: r)
 have hs3:=zpf (P:=Tryz.prog) Tryz.underlying9 (c :: r) 1 1 rfl (by simp)
 have hs4:=zfo c r
 have hix:=zc5 b (c :: r) 129 (by omega)
 have hic:=zc5 c r (c.toNat:Int) rfl
 simp only[List.take_succ_cons,List.take_zero] at hs3
 by_cases hc:c.toNat<128
 · rw[if_pos hc]
   have hc':(c.toNat:Int)<128:=by omega
   clear hb
   go_enter Tryz.func157,Tryz.ntmps157
   go_wp2
   exact bodyPost_ret (v:=.tuple #[.int .i64 0,.string ⟨#[]⟩,.string ⟨#[]⟩,.bool false]) (by simp[results,Tryz.results157,go_sem]) rfl ⟨rfl,Below.refl _ _⟩
 · rw[if_neg hc]
   have hc':¬ (c.toNat:Int)<128:=by omega
   clear hb
   go_enter Tryz.func157,Tryz.ntmps157
   go_wp2
   go_quiet (fail)
   go_wp2
   exact bodyPost_ret (v:=.tuple #[.int .i64 1,.string ⟨#[c]⟩,.string ⟨r.toArray⟩,.bool true]) (by simp[results,Tryz.results157,go_sem]) rfl ⟨rfl,below_drewN (Below.refl _ _) _⟩
theorem zlh (b:UInt8) (r:List UInt8) (k m:Nat) (w:World) (hk:(k=1∧b.toNat=128+(55+m))∨(k=2∧b.toNat=192+(55+m))) (hm:1≤m) (hm8:m≤8)
 (hf:r.length<m∨(m≤r.length∧3<m)∨(m≤r.length∧m≤3∧∃ r',r=0 :: r')) (hr:r.length≤1048576) :
 Calls Tryz.prog 157 #[.string ⟨(b :: r).toArray⟩] w fun e w'=>e=.returned (tkV none)∧Below w.heap.size w w':=by
 have hs2:=zfo b r
 rcases hf with hf | ⟨hl,h3⟩ | ⟨hl,h3,r',rfl⟩
 · have hf':(r.length:Int)<(m:Int):=by omega
   rcases hk with ⟨rfl,hb⟩ | ⟨rfl,hb⟩
   · have hix:=zc5 b r (128+(55+(m:Int))) (by omega)
     clear hb
     go_enter Tryz.func157,Tryz.ntmps157
     go_wp2
     exact bodyPost_ret (v:=.tuple #[.int .i64 0,.string ⟨#[]⟩,.string ⟨#[]⟩,.bool false]) (by simp[results,Tryz.results157,go_sem]) rfl ⟨rfl,Below.refl _ _⟩
   · have hix:=zc5 b r (192+(55+(m:Int))) (by omega)
     clear hb
     go_enter Tryz.func157,Tryz.ntmps157
     go_wp2
     exact bodyPost_ret (v:=.tuple #[.int .i64 0,.string ⟨#[]⟩,.string ⟨#[]⟩,.bool false]) (by simp[results,Tryz.results157,go_sem]) rfl ⟨rfl,Below.refl _ _⟩
 · have hf':(m:Int)≤(r.length:Int):=by omega
   have h3':(3:Int)<(m:Int):=by omega
   rcases hk with ⟨rfl,hb⟩ | ⟨rfl,hb⟩
   · have hix:=zc5 b r (128+(55+(m:Int))) (by omega)
     clear hb
     go_enter Tryz.func157,Tryz.ntmps157
     go_wp2
     exact bodyPost_ret (v:=.tuple #[.int .i64 0,.string ⟨#[]⟩,.string ⟨#[]⟩,.bool false]) (by simp[results,Tryz.results157,go_sem]) rfl ⟨rfl,Below.refl _ _⟩
   · have hix:=zc5 b r (192+(55+(m:Int))) (by omega)
     clear hb
     go_enter Tryz.func157,Tryz.ntmps157
     go_wp2
     exact bodyPost_ret (v:=.tuple #[.int .i64 0,.string ⟨#[]⟩,.string ⟨#[]⟩,.bool false]) (by simp[results,Tryz.results157,go_sem]) rfl ⟨rfl,Below.refl _ _⟩
 · have hf':(m:Int)≤(r'.length:Int)+1:=by simp at hl;omega
   have hi0:=zc5 0 r' 0 rfl
   rcases hk with ⟨rfl,hb⟩ | ⟨rfl,hb⟩
   · have hix:=zc5 b (0 :: r') (128+(55+(m:Int))) (by omega)
     clear hb
     go_enter Tryz.func157,Tryz.ntmps157
     go_wp2
     exact bodyPost_ret (v:=.tuple #[.int .i64 0,.string ⟨#[]⟩,.string ⟨#[]⟩,.bool false]) (by simp[results,Tryz.results157,go_sem]) rfl ⟨rfl,Below.refl _ _⟩
   · have hix:=zc5 b (0 :: r') (192+(55+(m:Int))) (by omega)
     clear hb
     go_enter Tryz.func157,Tryz.ntmps157
     go_wp2
     exact bodyPost_ret (v:=.tuple #[.int .i64 0,.string ⟨#[]⟩,.string ⟨#[]⟩,.bool false]) (by simp[results,Tryz.results157,go_sem]) rfl ⟨rfl,Below.refl _ _⟩
theorem za2d (b c : UInt8) (r' r : List UInt8) (k m : Nat) (w : World) (hk : (k = 1 ∧ b.toNat = 128 + (55 + m)) ∨ (k = 2 ∧ b.toNat = 192 + (55 + m))) (hm : 1 ≤ m) (hm3 : m ≤ 3)
 (hrr:r=c :: r') (hl:m≤r.length) (hc:c≠0) (hr:r.length≤1048576) :
 Calls Tryz.prog 157 #[.string ⟨(b :: r).toArray⟩] w fun e w'=>e=.returned (tkV (if valB (r.take m)≤55∨(r.drop m).length<valB (r.take m)∨60000<valB (r.take m) then none else some (k,(r.drop m).take (valB (r.take m)),(r.drop m).drop (valB (r.take m)))))∧Below w.heap.size w w':=by
 have hs2:=zfo b r
 have hs3:=zbg r m hl
 have hf':(m:Int)≤(r.length:Int):=by omega
 have hi0:=zc5 c r' (c.toNat:Int) rfl
 rw[←hrr] at hi0
 have hc':((c.toNat:Int) == 0)=false:=by
  simp only[beq_eq_false_iff_ne,ne_eq]
  intro h
  exact hc (UInt8.toNat_inj.1 (by simpa using h))
 obtain⟨r2,hr2⟩:∃ r2,r2=r.drop m:=⟨_,rfl⟩
 have hr2l:r2.length≤1048576:=by rw[hr2];simp;omega
 rw[←hr2] at hs3 ⊢
 obtain⟨v,hv⟩:∃ v,v=valB (r.take m):=⟨_,rfl⟩
 have hvl:v<16777216:=by rw[hv];exact zgi r m hm3
 rw[←hv]
 have HV:Hid (v=valB (r.take m)):=hv
 obtain⟨out,hout⟩:∃ out,out=(if v≤55∨r2.length<v∨60000<v then none else some (k,r2.take v,r2.drop v)):=⟨_,rfl⟩
 rw[←hout]
 have HO:Hid (out=(if v≤55∨r2.length<v∨60000<v then none else some (k,r2.take v,r2.drop v))):=hout
 clear hout
 clear hr2 hrr hc hv
 rcases hk with ⟨rfl,hb⟩ | ⟨rfl,hb⟩
 · have hix := zc5 b r (128 + (55 + (m : Int))) (by omega)
   clear hb
   go_enter Tryz.func157,Tryz.ntmps157
   go_wp2
   go_loop [9,12] (fun n i=>∃ j:Nat,j≤m∧i=.int .i64 (j:Int)∧n=.int .i64 (valB (r.take j):Int)) (fun _ i=>m - (intOf i).toNat)
   case atStart=>exact⟨0,Nat.zero_le _,rfl,rfl⟩
   case round =>
    obtain⟨j,hj,rfl,rfl⟩:=hrel
    have hvj:valB (r.take j)<16777216:=zgi r j (by omega)
    by_cases hlt:j<m
    · have hjr:j<r.length:=by omega
      have hij:=zcq (P:=Tryz.prog) Tryz.underlying9 r (j:Int) j rfl hjr
      have HS:Hid (valB (r.take (j+1))=256*valB (r.take j)+r[j].toNat):=zk9 r j hjr
      obtain⟨x,hx⟩:∃ x,x=valB (r.take j):=⟨_,rfl⟩
      obtain⟨y,hy⟩:∃ y,y=r[j]:=⟨_,rfl⟩
      rw[←hx] at hvj HS ⊢
      rw[←hy] at hij HS
      have hyl:=y.toNat_lt
      clear hx hy
      go_wp2
      go_round
      case rel=>exact⟨j+1,by omega,by go_num,by rw[HS.out];go_num⟩
      case measure=>simp[intOf];omega
    · have hjm:j=m:=by omega
      subst hjm
      rw[←HV.out]
      by_cases h1:v≤55
      · have HN:Hid (out=none):=by rw[Hid,HO.out,if_pos (.inl h1)]
        have h1':(v:Int)≤55:=by omega
        go_wp2
        exact bodyPost_ret (v:=.tuple #[.int .i64 0,.string ⟨#[]⟩,.string ⟨#[]⟩,.bool false]) (by simp[results,Tryz.results157,go_sem]) rfl ⟨by rw[HN.out];rfl,Below.refl _ _⟩
      · have h1':¬ (v:Int)≤55:=by omega
        by_cases h2:r2.length<v
        · have HN:Hid (out=none):=by rw[Hid,HO.out,if_pos (.inr (.inl h2))]
          have h2':(r2.length:Int)<(v:Int):=by omega
          go_wp2
          exact bodyPost_ret (v:=.tuple #[.int .i64 0,.string ⟨#[]⟩,.string ⟨#[]⟩,.bool false]) (by simp[results,Tryz.results157,go_sem]) rfl ⟨by rw[HN.out];rfl,Below.refl _ _⟩
        · have h2':(v:Int)≤(r2.length:Int):=by omega
          by_cases h3:60000<v
          · have HN:Hid (out=none):=by rw[Hid,HO.out,if_pos (.inr (.inr h3))]
            have h3':(60000:Int)<(v:Int):=by omega
            go_wp2
            exact bodyPost_ret (v:=.tuple #[.int .i64 0,.string ⟨#[]⟩,.string ⟨#[]⟩,.bool false]) (by simp[results,Tryz.results157,go_sem]) rfl ⟨by rw[HN.out];rfl,Below.refl _ _⟩
          · have HN:Hid (out=some (1,r2.take v,r2.drop v)):=by rw[Hid,HO.out,if_neg (by omega)]
            have h3':(v:Int)≤60000:=by omega
            have h5':((v:Int) == 1)=false:=by simp only[beq_eq_false_iff_ne,ne_eq];omega
            have hs5:=zdf r2 v (by omega)
            have hs6:=zbg r2 v (by omega)
            obtain⟨q1,hq1⟩:∃ q1,q1=r2.take v:=⟨_,rfl⟩
            obtain⟨q2,hq2⟩:∃ q2,q2=r2.drop v:=⟨_,rfl⟩
            rw[←hq1] at hs5 HN
            rw[←hq2] at hs6 HN
            clear hq1 hq2
            go_wp2
            go_quiet (fail)
            go_wp2
            exact bodyPost_ret (v:=.tuple #[.int .i64 1,.string ⟨q1.toArray⟩,.string ⟨q2.toArray⟩,.bool true]) (by simp[results,Tryz.results157,go_sem]) rfl ⟨by rw[HN.out];rfl,below_drewN (Below.refl _ _) _⟩
 · have hix := zc5 b r (192 + (55 + (m : Int))) (by omega)
   clear hb
   go_enter Tryz.func157,Tryz.ntmps157
   go_wp2
   go_loop [9,12] (fun n i=>∃ j:Nat,j≤m∧i=.int .i64 (j:Int)∧n=.int .i64 (valB (r.take j):Int)) (fun _ i=>m - (intOf i).toNat)
   case atStart=>exact⟨0,Nat.zero_le _,rfl,rfl⟩
   case round =>
    obtain⟨j,hj,rfl,rfl⟩:=hrel
    have hvj:valB (r.take j)<16777216:=zgi r j (by omega)
    by_cases hlt:j<m
    · have hjr:j<r.length:=by omega
      have hij:=zcq (P:=Tryz.prog) Tryz.underlying9 r (j:Int) j rfl hjr
      have HS:Hid (valB (r.take (j+1))=256*valB (r.take j)+r[j].toNat):=zk9 r j hjr
      obtain⟨x,hx⟩:∃ x,x=valB (r.take j):=⟨_,rfl⟩
      obtain⟨y,hy⟩:∃ y,y=r[j]:=⟨_,rfl⟩
      rw[←hx] at hvj HS ⊢
      rw[←hy] at hij HS
      have hyl:=y.toNat_lt
      clear hx hy
      go_wp2
      go_round
      case rel=>exact⟨j+1,by omega,by go_num,by rw[HS.out];go_num⟩
      case measure=>simp[intOf];omega
    · have hjm:j=m:=by omega
      subst hjm
      rw[←HV.out]
      by_cases h1:v≤55
      · have HN:Hid (out=none):=by rw[Hid,HO.out,if_pos (.inl h1)]
        have h1':(v:Int)≤55:=by omega
        go_wp2
        exact bodyPost_ret (v:=.tuple #[.int .i64 0,.string ⟨#[]⟩,.string ⟨#[]⟩,.bool false]) (by simp[results,Tryz.results157,go_sem]) rfl ⟨by rw[HN.out];rfl,Below.refl _ _⟩
      · have h1':¬ (v:Int)≤55:=by omega
        by_cases h2:r2.length<v
        · have HN:Hid (out=none):=by rw[Hid,HO.out,if_pos (.inr (.inl h2))]
          have h2':(r2.length:Int)<(v:Int):=by omega
          go_wp2
          exact bodyPost_ret (v:=.tuple #[.int .i64 0,.string ⟨#[]⟩,.string ⟨#[]⟩,.bool false]) (by simp[results,Tryz.results157,go_sem]) rfl ⟨by rw[HN.out];rfl,Below.refl _ _⟩
        · have h2':(v:Int)≤(r2.length:Int):=by omega
          by_cases h3:60000<v
          · have HN:Hid (out=none):=by rw[Hid,HO.out,if_pos (.inr (.inr h3))]
            have h3':(60000:Int)<(v:Int):=by omega
            go_wp2
            exact bodyPost_ret (v:=.tuple #[.int .i64 0,.string ⟨#[]⟩,.string ⟨#[]⟩,.bool false]) (by simp[results,Tryz.results157,go_sem]) rfl ⟨by rw[HN.out];rfl,Below.refl _ _⟩
          · have HN:Hid (out=some (2,r2.take v,r2.drop v)):=by rw[Hid,HO.out,if_neg (by omega)]
            have h3':(v:Int)≤60000:=by omega
            have h5':((v:Int) == 1)=false:=by simp only[beq_eq_false_iff_ne,ne_eq];omega
            have hs5:=zdf r2 v (by omega)
            have hs6:=zbg r2 v (by omega)
            obtain⟨q1,hq1⟩:∃ q1,q1=r2.take v:=⟨_,rfl⟩
            obtain⟨q2,hq2⟩:∃ q2,q2=r2.drop v:=⟨_,rfl⟩
            rw[←hq1] at hs5 HN
            rw[←hq2] at hs6 HN
            clear hq1 hq2
            go_wp2
            go_quiet (fail)
            go_wp2
            exact bodyPost_ret (v:=.tuple #[.int .i64 2,.string ⟨q1.toArray⟩,.string ⟨q2.toArray⟩,.bool true]) (by simp[results,Tryz.results157,go_sem]) rfl ⟨by rw[HN.out];rfl,below_drewN (Below.refl _ _) _⟩
theorem zrc (n:Nat) (r:List UInt8) (h:n≠1):lone n r=false:=by
 cases r <;> simp[lone,h]
theorem zrd (n:Nat) (r:List UInt8) (h:n≤55):lenOf n r=some (n,r):=by rw[lenOf,if_pos h]
theorem zij (m:Nat) (r:List UInt8) (hm:1≤m) (h:r.length<m∨3<m∨r.head? = some 0∨valB (r.take m)≤55):lenOf (55+m) r=none:=by
 rw[lenOf,if_neg (by omega),show 55+m - 55=m from by omega,if_pos h]
theorem za2e (m:Nat) (r:List UInt8) (hm:1≤m) (h:¬ (r.length<m∨3<m∨r.head? = some 0∨valB (r.take m)≤55)):lenOf (55+m) r=some (valB (r.take m),r.drop m):=by
 rw[lenOf,if_neg (by omega),show 55+m - 55=m from by omega,if_neg h]
def tell (k:Nat) (text:Bool):Option (Nat × List UInt8)→Option (Nat × List UInt8 × List UInt8)
 | none=>none
 | some (n,r')=>if r'.length<n∨60000<n∨(text && lone n r')=true then none else some (k,r'.take n,r'.drop n)
theorem za2f (b:UInt8) (r:List UInt8) (n:Nat) (h:b.toNat=128+n) (hn:n<64):zn (b :: r)=tell 1 true (lenOf n r):=by
 rw[zpd b r (by omega) (by omega),show b.toNat - 128=n from by omega]
 cases lenOf n r with
 | none=>rfl
 | some x=>obtain⟨n',r'⟩:=x;simp[tell]
theorem za2g (b:UInt8) (r:List UInt8) (n:Nat) (h:b.toNat=192+n):zn (b :: r)=tell 2 false (lenOf n r):=by
 rw[zpe b r (by omega),show b.toNat - 192=n from by omega]
 cases lenOf n r with
 | none=>rfl
 | some x=>obtain⟨n',r'⟩:=x;simp[tell]
theorem zli (k:Nat) (text:Bool) (n:Nat) (r:List UInt8):tell k text (some (n,r))=if r.length<n∨60000<n∨(text && lone n r)=true then none else some (k,r.take n,r.drop n):=rfl
theorem zre (b:UInt8) (r:List UInt8) (k m:Nat) (text:Bool) (w:World) (hk:(k=1∧b.toNat=128+(55+m))∨(k=2∧b.toNat=192+(55+m))) (hm:1≤m) (hm8:m≤8) (hr:r.length≤1048576) :
 Calls Tryz.prog 157 #[.string ⟨(b :: r).toArray⟩] w fun e w'=>e=.returned (tkV (tell k text (lenOf (55+m) r)))∧Below w.heap.size w w':=by
 by_cases h1:r.length<m
 · rw[zij m r hm (.inl h1)]
   exact zlh b r k m w hk hm hm8 (.inl h1) hr
 · by_cases h3:3<m
   · rw[zij m r hm (.inr (.inl h3))]
     exact zlh b r k m w hk hm hm8 (.inr (.inl ⟨by omega,h3⟩)) hr
   · match r, h1, hr with
     | [],h1,_=>exact absurd hm (by simp at h1;omega)
     | c :: r', h1, hr =>
       by_cases hc:c=0
       · subst hc
         rw[zij m _ hm (.inr (.inr (.inl rfl)))]
         exact zlh b _ k m w hk hm hm8 (.inr (.inr ⟨by omega,by omega,r',rfl⟩)) hr
       · have:=za2d b c r' (c :: r') k m w hk hm (by omega) rfl (by omega) hc hr
         by_cases hv:valB ((c :: r').take m)≤55
         · rw[zij m _ hm (.inr (.inr (.inr hv)))]
           rw[if_pos (.inl hv)] at this
           exact this
         · rw[za2e m _ hm (by rintro (h | h | h | h);exact h1 h;exact h3 h;exact hc (by simpa using h);exact hv h),zli]
           have hne:valB ((c :: r').take m)≠1:=by omega
           rw[zrc _ _ hne]
           simp only[Bool.and_false,Bool.false_eq_true,or_false]
           simp only[hv,false_or] at this
           exact this
theorem zik (l:List UInt8) (w:World) (hl:l.length≤1048576) :
 Calls Tryz.prog 157 #[.string ⟨l.toArray⟩] w fun e w'=>e=.returned (tkV (zn l))∧Below w.heap.size w w':=by
 match l,hl with
 | [],_=>exact za2a w
 | b :: r, hl =>
   have hb:=b.toNat_lt
   have hr:r.length≤1048576:=by simp at hl;omega
   by_cases h1:b.toNat<128
   · have e:zn (b :: r)=some (1,[b],r):=by simp only[zn];rw[if_pos h1]
     rw[e]
     exact za2b b r w h1 hr
   · by_cases h2 : b.toNat < 192
     · obtain ⟨n, hn⟩ : ∃ n, b.toNat = 128 + n := ⟨b.toNat - 128, by omega⟩
       rw[za2f b r n hn (by omega)]
       by_cases h55:n≤55
       · rw [zrd n r h55, zli]
         by_cases hf:r.length<n
         · rw[if_pos (.inl hf)]
           exact zra b r 1 n w (.inl ⟨rfl,hn⟩) h55 hf hr
         · by_cases hn1:n=1
           · subst hn1
             match r,hf,hr,hl with
             | [],hf,_,_=>exact absurd hf (by simp)
             | c :: r', _, hr, hl =>
               have:=za2c b c r' w hn (by simp at hl;omega)
               by_cases hc:c.toNat<128
               · rw[if_pos (by simp[lone,hc])]
                 rw[if_pos hc] at this
                 exact this
               · rw[if_neg (by simp[lone,hc])]
                 rw[if_neg hc] at this
                 exact this
           · rw[if_neg (by rw[zrc n r hn1];simp;omega)]
             exact zrb b r 1 n w (.inl ⟨rfl,hn,hn1⟩) h55 (by omega) hr
       · obtain⟨m,hm⟩:∃ m,n=55+m:=⟨n - 55,by omega⟩
         subst hm
         exact zre b r 1 m true w (.inl ⟨rfl,hn⟩) (by omega) (by omega) hr
     · obtain⟨n,hn⟩:∃ n,b.toNat=192+n:=⟨b.toNat - 192,by omega⟩
       rw[za2g b r n hn]
       by_cases h55:n≤55
       · rw[zrd n r h55,zli]
         by_cases hf:r.length<n
         · rw[if_pos (.inl hf)]
           exact zra b r 2 n w (.inr ⟨rfl,hn⟩) h55 hf hr
         · rw[if_neg (by simp;omega)]
           exact zrb b r 2 n w (.inr ⟨rfl,hn⟩) h55 (by omega) hr
       · obtain⟨m,hm⟩:∃ m,n=55+m:=⟨n - 55,by omega⟩
         subst hm
         exact zre b r 2 m false w (.inr ⟨rfl,hn⟩) (by omega) (by omega) hr
theorem info9:(Tryz.prog.info? 9).map (fun i=>(i.zero,i.size,i.bytes))=some (some (.string ⟨#[]⟩),1,16):=by kernel_rfl
theorem zrf (l:List UInt8) (w:World) (hl:l.length≤1048576) (h:zn l=none∨∃ k bd rest,zn l=some (k,bd,rest)∧(k≠2∨rest≠[])) :
 Calls Tryz.prog 156 #[.string ⟨l.toArray⟩] w fun e w'=>e=.returned (.tuple #[.slice none 0 0,.bool false])∧Below w.heap.size w w':=by
 have H1:=fun W=>zik l W hl
 rcases h with h | ⟨k,bd,rest,h,hk⟩
 · rw[h] at H1
   simp only[tkV] at H1
   clear h
   go_enter Tryz.func156,Tryz.ntmps156
   go_wp2_with fail
   refine (H1 _).mono ?_
   rintro e w1 ⟨rfl,hb1⟩
   go_wp2
   go_ret2
   exact⟨rfl,hb1⟩
 · have hk12:=zgn l k bd rest h
   rw[h] at H1
   simp only[tkV] at H1
   clear h
   rcases hk12 with rfl | rfl
   · go_enter Tryz.func156,Tryz.ntmps156
     go_wp2_with fail
     refine (H1 _).mono ?_
     rintro e w1 ⟨rfl,hb1⟩
     go_wp2
     go_ret2
     exact⟨rfl,hb1⟩
   · have hr:rest≠[]:=by rcases hk with hk | hk;exact absurd rfl hk;exact hk
     obtain⟨a,r,rfl⟩:∃ a r,rest=a :: r:=by cases rest with
      | nil=>exact absurd rfl hr
      | cons a r=>exact⟨a,r,rfl⟩
     clear hk hr
     go_enter Tryz.func156,Tryz.ntmps156
     go_wp2_with fail
     refine (H1 _).mono ?_
     rintro e w1 ⟨rfl,hb1⟩
     go_wp2
     go_ret2
     exact⟨rfl,hb1⟩
theorem za2h (l body:List UInt8) (w:World) (hl:l.length≤1048576) (h:zn l=some (2,body,[])) :
 Calls Tryz.prog 156 #[.string ⟨l.toArray⟩] w fun e w'=>zkh w (zar body.length body) e w':=by
 obtain⟨i0,hi0,hz0,hz1,hz2⟩:=info_parts info9
 have hbl:=(zfg l 2 body [] h).2
 have H1:=fun W=>zik l W hl
 rw[h] at H1
 simp only[tkV] at H1
 obtain⟨total,htot⟩:∃ total,total=zar body.length body:=⟨_,rfl⟩
 rw[←htot]
 have HT:Hid (total=zar body.length body):=htot
 clear h htot
 go_enter Tryz.func156,Tryz.ntmps156
 go_wp2_with fail
 refine (H1 _).mono ?_
 rintro e w1 ⟨rfl,hb1⟩
 clear H1
 have hs1:=hb1.size
 go_wp2
 go_loopw [5,8] (fun v o wr=>∃ f g cap:Nat,∃ left:List UInt8,∃ done:List (List UInt8),left.length≤f∧done.length+left.length≤body.length∧v=.string ⟨left.toArray⟩∧o=.slice (some ⟨g,0,none⟩) done.length cap ∧
  wr.ownsRow w.heap.size 9 1 (.slice (some ⟨g,0,none⟩) done.length cap) done.length (zh done)∧Below w.heap.size w wr∧Hid (total=(zar f left).map (done ++ ·))) (fun v _ _=>match v with | .string s=>s.size | _=>0)
 case atStart=>exact⟨body.length,w1.heap.size,0,body,[],Nat.le_refl _,by simp,rfl,rfl,World.ownsRow_lit w1 #[] 0 (by omega) (Nat.zero_le _) rfl,hb1.alloc hs1 _,by rw[Hid,HT.out];cases zar body.length body <;> rfl⟩
 case round =>
  obtain⟨f,g,cap,left,done,hf,hdl,rfl,rfl,hown,hbel,HL⟩:=hrel
  have hsz:=hbel.size
  have hbg:=own_base hown
  match left,hf,hdl,HL with
  | [], hf, hdl, HL =>
    have HR:Hid (total=some done):=by rw[Hid,HL.out,zhw];simp
    go_wp2
    go_ret2
    rw[HR.out]
    exact⟨_,rfl,hown,hbel,by simp at hdl;omega⟩
  | c :: r, hf, hdl, HL =>
    have hll:(c :: r).length≤1048576:=by omega
    have H2:=fun W=>zik (c :: r) W hll
    cases ht:zn (c :: r) with
    | none =>
      have HR:Hid (total=none):=by rw[Hid,HL.out,zkc f c r ht];rfl
      rw[ht] at H2
      simp only[tkV] at H2
      clear ht
      go_wp2_with fail
      refine (H2 _).mono ?_
      rintro e w2 ⟨rfl,hb2⟩
      go_wp2
      go_ret2
      rw[HR.out]
      exact⟨rfl,hbel.trans (hb2.mono hsz)⟩
    | some x =>
      obtain⟨k,bd,more⟩:=x
      have hml:=(zfg _ _ _ _ ht).1
      obtain⟨f',rfl⟩:∃ f',f=f'+1:=⟨f - 1,by simp at hf;omega⟩
      have HR:Hid (total=(zar f' more).map ((done ++ [(c :: r).take ((c :: r).length - more.length)]) ++ ·)):=by
       rw[Hid,HL.out,zkd f' c r k bd more ht]
       cases zar f' more <;> simp
      rw[ht] at H2
      simp only[tkV] at H2
      clear ht
      have hx1:=zdf (c :: r) ((c :: r).length - more.length) (by omega)
      have hml':more.length≤r.length:=by simp at hml;omega
      have hrl:r.length≤1048576:=by simp at hll;omega
      obtain⟨it,hit⟩:∃ it,it=(c :: r).take ((c :: r).length - more.length):=⟨_,rfl⟩
      rw[←hit] at hx1 HR
      rw[List.length_cons] at hx1
      clear hit hml
      go_wp2_with fail
      refine (H2 _).mono ?_
      rintro e w2 ⟨rfl,hb2⟩
      have hown2:=hown.kept (row:=none) ⟨hb2.os,hb2.tape,hb2.output,hb2.size,fun k hk _=>hb2.block k hk⟩ (.inr (by simp[Value.ownBlock]))
      have hbel2:=hbel.trans (hb2.mono hsz)
      have hsz2:=hbel2.size
      clear hown hbel hb2 H2
      go_wp2_with (at_builtin;refine wpList_append_lies _ rfl _ _ 138 rfl w.heap.size 9 i0 (.string ⟨#[]⟩) 1 16 Tryz.underlying138 hi0 hz0 hz1 hz2 rfl (by decide) (.slice (some ⟨g,0,none⟩) done.length cap) done.length _ rfl (hown2.alloc _) ⟨w2.heap.size,0,none⟩ 1 1 [.string ⟨it.toArray⟩] rfl rfl (World.news_of_block (cs:=#[.string ⟨it.toArray⟩]) (t:=9) (fr:=(0,0)) (heap_alloc_new w2 _)) (by simp[Value.oneCell']) (by omega) (by simp at hdl;unfold maxLen;omega) (by simp at hdl;omega) (by simp;omega) (w2.heap.size+1) (by simp) ?_;intro g2 cap2 w3 hown3 hgrow hat hlt1)
      have hbel3:=zk2 hbel2 hsz2 hbg hgrow
      go_roundw
      case rel=>exact⟨f',g2,cap2,more,done ++ [it],by simp at hf;omega,by simp at hdl ⊢;omega,rfl,by simp,by rw[zc0];simpa using hown3,hbel3,HR⟩
      case measure=>simp[ByteArray.size];omega
theorem za2i (l:List UInt8) (w:World) (hl:l.length≤1048576) :
 Calls Tryz.prog 156 #[.string ⟨l.toArray⟩] w fun e w'=>zkh w (zbb l) e w':=by
 cases h:zn l with
 | none=>rw[zke l h];exact zrf l w hl (.inl h)
 | some x =>
   obtain⟨k,bd,rest⟩:=x
   by_cases hk:k≠2∨rest≠[]
   · rw[zkf l k bd rest h hk];exact zrf l w hl (.inr ⟨k,bd,rest,h,hk⟩)
   · have hk2:k=2:=by omega
     have hr:rest=[]:=Classical.byContradiction fun hn=>hk (.inr hn)
     subst hk2 hr
     rw[zkg l bd h]
     exact za2h l bd w hl h
end Go.Proofs.YtppljdnbhoeeoaaGreatDoor
