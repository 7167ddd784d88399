import Derived.Test.YthmlndmlnlfhnaaGreatDoorK09606a71
set_option maxRecDepth 100000
set_option maxHeartbeats 16000000
namespace Go.Proofs.YthmlndmlnlfhnaaGreatDoor
open Go.RowKit Go.Shelf
theorem law_TopGood (l:List ActD) (v:Value) (w:World) (hl:Sl Enc.act w (Old w) l v) (hsz:∀ a∈l,a.name.size≤140737488355328∧a.text.size≤140737488355328) (hv:VarsOk w) :
  Calls Tryz.prog 4 #[v] w fun e w'=>e = .returned (.bool true)∧Below w.heap.size w w':=by
 have HL:=Lib.hid hl
 have HSZ:=Lib.hid hsz
 have HV:=Lib.hid hv
 obtain ⟨A,cp,rfl,-,-,-⟩:=hl
 clear hv hsz
 go_enter Tryz.func4,Tryz.ntmps4
 go_wp2_with fail
 refine (jj2 l _ _ HL.out HSZ.out HV.out).mono ?_
 rintro e w1 ⟨g,c,vs,vl,rfl,m1⟩
 have M1:=Lib.hid m1
 clear m1
 have HI:Hid (Inv (runV newV (l.take 50))):=jtj Inv.new
 generalize runV newV (l.take 50) = σ at *
 have hl39:σ.last≤39:=HI.out.some_
 go_wp2_with fail
 refine (jhq σ c g vs vl _ M1.out.st).mono ?_
 rintro e w2 ⟨v2,rfl,hs2,hb2⟩
 have HS2:=Lib.hid hs2
 obtain ⟨A2,k2,rfl,-,-⟩:=hs2.form
 have hLen:Hid (σ.states.length = σ.last+1):=jmc σ
 have M2:=Lib.hid (M1.out.next hb2)
 clear hs2
 generalize hNN:σ.states.length=NN at *
 have hN40:NN≤40:=by have:=hLen.out;omega
 have hN40':(NN:Int)≤40:=by omega
 go_wp2
 go_loopw [20] (fun i wr=>∃ k:Nat,k≤NN∧i = .int .i64 k∧Below w2.heap.size w2 wr) (fun i _=>NN-(intOf i).toNat)
 case atStart=>exact ⟨0,Nat.zero_le _,rfl,Below.refl _ _⟩
 case round =>
  obtain ⟨k,hk,rfl,hbl⟩:=hrel
  by_cases hlt:k<NN
  ·have hi1:(k:Int)<NN:=by omega
   obtain ⟨b,o,x,vd,vt,rfl,hSb,hx,a0,a1,s1,s2⟩:=(HS2.out.keep (w':=wr) (fun p hp=>hbl.cell hp.2)).book_at (k:=k) (by rw [hNN];exact hlt)
   have hck:Hid ((ja6 x).2.2=0):=jn1 HI.out (List.mem_of_getElem? hx.out)
   have HB:Hid (jar wr (From w1.heap.size w2) x (.agg #[vd,vt])):=⟨_,_,rfl,s1,s2⟩
   obtain ⟨Ad,cd,rfl,-,-⟩:=s1.form
   obtain ⟨At,ct,rfl,-,-⟩:=s2.form
   clear s1 s2
   have hb3:=jac wr (.cells #[.slice Ad x.doms.length cd,.slice At x.tabs.length ct] 38)
   have C3:=Lib.hid (Cs.new wr [.slice Ad x.doms.length cd,.slice At x.tabs.length ct] 38)
   change Hid (Cs (wr.alloc (.cells #[.slice Ad x.doms.length cd,.slice At x.tabs.length ct] 38)) _ _) at C3
   have hsl:=hbl.size
   have HB3:Hid (jar (wr.alloc (.cells #[.slice Ad x.doms.length cd,.slice At x.tabs.length ct] 38)) (Old (wr.alloc (.cells #[.slice Ad x.doms.length cd,.slice At x.tabs.length ct] 38))) x (.agg #[.slice Ad x.doms.length cd,.slice At x.tabs.length ct])):=(HB.out.keepS (fun q hq=>hb3.block q (by have:=hq.2;omega))).moreS (fun q hq=>by have:=hq.2;have:=hb3.size;show q<_;omega)
   have q0:=C3.out.at 0 rfl
   have q1:=C3.out.at 1 rfl
   go_wp2_with fail
   generalize wr.alloc (.cells #[.slice Ad x.doms.length cd,.slice At x.tabs.length ct] 38)=w3 at *
   clear q0 q1
   refine (jlt x _ _ HB3.out (jh6 (jnn hck.out))).mono ?_
   rintro e w4 ⟨v4,rfl,hn4,hb4⟩
   obtain ⟨A4,c4,rfl,-,-⟩:=hn4.form
   clear hn4
   rw [hck.out]
   go_wp2
   exact ⟨⟨k+1,by omega,by go_num,bx hbl (bx hb3 hb4)⟩,by simp [intOf];omega⟩
  ·have hi1:¬ (k:Int)<NN:=by omega
   have M3:=Lib.hid (M2.out.next hbl)
   go_wp2_with fail
   refine (jhq σ c g vs vl _ M3.out.st).mono ?_
   rintro e w5 ⟨v5,rfl,hs5,hb5⟩
   obtain ⟨A5,k5,rfl,-,-⟩:=hs5.form
   rw [hNN]
   clear hs5
   go_wp2
   go_ret
   exact ⟨rfl,bx M3.out.below hb5⟩
end Go.Proofs.YthmlndmlnlfhnaaGreatDoor
