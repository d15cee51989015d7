import Derived.Test.YthgikffcdgpgiaaGreatDoorWS0
import Derived.Laws.Bits128
namespace Go.Proofs.YthgikffcdgpgiaaGreatDoor
open Go.RowKit
theorem map_le {f:Nat→Nat} (hf:∀B,B<256→f B≤68):∀n x,mapB f n x≤mkB 68 n
 | 0,_=>Nat.le_refl _
 | n+1,x=>by
  have h1:=map_le hf n (x / 256)
  have h2:=hf (x % 256) (Nat.mod_lt _ (by decide))
  simp only [mapB,mkB]
  omega
theorem f21_le:∀B,B<256→f2 (f1 B)≤68:=by decide +kernel
theorem div_byte {p q:Nat} (h:p<256):(p+256*q) / 256=q:=by omega
theorem last_sum (p0 p1 p2 p3 p4 p5 p6 p7 a1 a2 a3 a4 a5 a6 X3 X4 X5 X6:Nat) (h0:p0≤8) (h1:p1≤8) (h2:p2≤8) (h3:p3≤8) (h4:p4≤8) (h5:p5≤8) (h6:p6≤8) (h7:p7≤8)
  (e3:X3=p0+256*a1) (g1:a1=p1+256*a2) (g2:a2=p2+256*a3) (g3:a3=p3+256*a4) (g4:a4=p4+256*a5) (g5:a5=p5+256*a6) (g6:a6=p6+256*p7) (e4:X4=X3+X3 / 256) (e5:X5=X4+X4 / 65536) (e6:X6=X5+X5 / 4294967296):X4<9223372036854775808∧X5<9223372036854775808∧X6<9223372036854775808∧X6 % 128=p0+(p1+(p2+(p3+(p4+(p5+(p6+p7)))))):=by
 have d3:X3 / 256=a1:=by rw [e3];exact div_byte (by omega)
 have c4:X4=(p0+p1)+256*(a1+a2):=by omega
 have d4:X4 / 65536=a2+a3:=by
  rw [show 65536=256*256 from rfl,←Nat.div_div_eq_div_mul,c4,div_byte (by omega),show a1+a2=(p1+p2)+256*(a2+a3) by omega,div_byte (by omega)]
 have c5:X5=(p0+p1+p2+p3)+256*(a1+a2+a3+a4):=by omega
 have d5:X5 / 4294967296=a4+a5+a6+p7:=by
  rw [show 4294967296=256*256*256*256 from rfl,←Nat.div_div_eq_div_mul,←Nat.div_div_eq_div_mul,←Nat.div_div_eq_div_mul,c5,div_byte (by omega),show a1+a2+a3+a4=(p1+p2+p3+p4)+256*(a2+a3+a4+a5) by omega,div_byte (by omega),show a2+a3+a4+a5=(p2+p3+p4+p5)+256*(a3+a4+a5+a6) by omega,div_byte (by omega),show a3+a4+a5+a6=(p3+p4+p5+p6)+256*(a4+a5+a6+p7) by omega,div_byte (by omega)]
 have c6:X6=(p0+p1+p2+p3+p4+p5+p6+p7)+256*(a1+a2+a3+a4+a5+a6+p7):=by omega
 have k6:a6≤2304:=by omega
 have k5:a5≤590000:=by omega
 have k4:a4≤151100000:=by omega
 have k3:a3≤38700000000:=by omega
 have k2:a2≤9910000000000:=by omega
 have k1:a1≤2540000000000000:=by omega
 clear e3 e4 e5 e6 d3 d4 d5 g1 g2 g3 g4 g5 g6
 refine ⟨by omega,by omega,by omega,?_⟩
 generalize a1+a2+a3+a4+a5+a6+p7=q at c6
 omega
theorem ones_last (x X4 X5 X6:Nat) (e4:X4=mapB ones8 8 x+mapB ones8 8 x / 256) (e5:X5=X4+X4 / 65536) (e6:X6=X5+X5 / 4294967296):X4<9223372036854775808∧X5<9223372036854775808∧X6<9223372036854775808∧X6 % 128=onesN 8 x:=by
 rw [ones_sum]
 have hm:∀y,ones8 (y % 256)≤8:=fun y=>ones8_le _ (Nat.mod_lt _ (by decide))
 have h:=last_sum (ones8 (x % 256)) (ones8 (x / 256 % 256)) (ones8 (x / 256 / 256 % 256)) (ones8 (x / 256 / 256 / 256 % 256)) (ones8 (x / 256 / 256 / 256 / 256 % 256)) (ones8 (x / 256 / 256 / 256 / 256 / 256 % 256)) (ones8 (x / 256 / 256 / 256 / 256 / 256 / 256 % 256)) (ones8 (x / 256 / 256 / 256 / 256 / 256 / 256 / 256 % 256)) (mapB ones8 7 (x / 256)) (mapB ones8 6 (x / 256 / 256)) (mapB ones8 5 (x / 256 / 256 / 256)) (mapB ones8 4 (x / 256 / 256 / 256 / 256)) (mapB ones8 3 (x / 256 / 256 / 256 / 256 / 256)) (mapB ones8 2 (x / 256 / 256 / 256 / 256 / 256 / 256)) (mapB ones8 8 x) X4 X5 X6 (hm _) (hm _) (hm _) (hm _) (hm _) (hm _) (hm _) (hm _) rfl rfl rfl rfl rfl rfl (by simp only [mapB];omega) e4 e5 e6
 simp only [sumB]
 exact h
set_option maxHeartbeats 1000000 in
set_option maxRecDepth 100000 in
theorem ones_any (x:Nat) (w:World) (hx:x<18446744073709551616) :
  Calls Tryz.prog 70 #[.int .u64 (x:Int)] w fun e w'=>e=.returned (.int .i64 (onesN 8 x:Nat))∧w'=w:=by
 have m0:mkB 85 8=6148914691236517205:=by decide
 have m1:mkB 51 8=3689348814741910323:=by decide
 have m2:mkB 15 8=1085102592571150095:=by decide
 have s1:=step1 8 x
 have s2:=step2 8 (mapB f1 8 x)
 have s3:=step3 8 (mapB f2 8 (mapB f1 8 x)) (by rw [map_map f1_lt];exact low_map 8 x)
 rw [m0] at s1
 rw [m1] at s2
 rw [m2,map_map f1_lt,map_map (fun B hB=>f2_lt _ (f1_lt _ hB)),map_congr f321] at s3
 have l1:mapB f1 8 x<18446744073709551616:=map_lt f1_lt 8 x
 have l2:mapB f2 8 (mapB f1 8 x)<18446744073709551616:=map_lt f2_lt 8 _
 have l3:mapB ones8 8 x<18446744073709551616:=map_lt (fun B hB=>Nat.lt_of_le_of_lt (ones8_le B hB) (by decide)) 8 x
 obtain ⟨k4,k5,k6,k7⟩:=ones_last x _ _ _ rfl rfl rfl
 have HX2:mapB f2 8 (mapB f1 8 x) / 16+mapB f2 8 (mapB f1 8 x)<18446744073709551616:=by
  have h:=map_le (f:=fun B=>f2 (f1 B)) f21_le 8 x
  rw [map_map f1_lt]
  rw [show mkB 68 8=4919131752989213764 by decide] at h
  omega
 rw [map_map f1_lt] at l2 s2 HX2
 generalize mapB f1 8 x=X1 at *
 generalize mapB (fun B=>f2 (f1 B)) 8 x=X2 at *
 generalize mapB ones8 8 x=X3 at *
 generalize onesN 8 x=r at *
 have W:∀a:Nat,a<18446744073709551616→IntKind.u64.wrap (a:Int)=(a:Int):=fun a h=>by rw [IntKind.wrap_u64];exact Int.emod_eq_of_lt (by omega) (by omega)
 have b1:IntKind.u64.wrap (bits .and .u64 ((x:Int) / 2) 6148914691236517205+bits .and .u64 (x:Int) 6148914691236517205)=(X1:Int):=by
  have q1:=u64_and_nat (x / 2) 6148914691236517205 (by omega) (by decide)
  have q2:=u64_and_nat x 6148914691236517205 hx (by decide)
  rw [show ((x:Int) / 2)=((x / 2:Nat):Int) by omega]
  rw [show (6148914691236517205:Int)=((6148914691236517205:Nat):Int) from rfl,q1,q2,←Int.natCast_add,s1,W _ l1]
 have b2:IntKind.u64.wrap (bits .and .u64 ((X1:Int) / 4) 3689348814741910323+bits .and .u64 (X1:Int) 3689348814741910323)=(X2:Int):=by
  have q1:=u64_and_nat (X1 / 4) 3689348814741910323 (by omega) (by decide)
  have q2:=u64_and_nat X1 3689348814741910323 l1 (by decide)
  rw [show ((X1:Int) / 4)=((X1 / 4:Nat):Int) by omega]
  rw [show (3689348814741910323:Int)=((3689348814741910323:Nat):Int) from rfl,q1,q2,←Int.natCast_add,s2,W _ l2]
 have b3:bits .and .u64 ((X2:Int) / 16+(X2:Int)) 1085102592571150095=(X3:Int):=by
  have hl:X2 / 16+X2<18446744073709551616:=HX2
  have q1:=u64_and_nat (X2 / 16+X2) 1085102592571150095 hl (by decide)
  rw [show ((X2:Int) / 16+(X2:Int))=((X2 / 16+X2:Nat):Int) by omega]
  rw [show (1085102592571150095:Int)=((1085102592571150095:Nat):Int) from rfl,q1,s3]
 have b4:IntKind.u64.wrap ((X3:Int)+(X3:Int) / 256)=((X3+X3 / 256:Nat):Int):=by
  rw [show ((X3:Int)+(X3:Int) / 256)=((X3+X3 / 256:Nat):Int) by omega]
  exact W _ (by omega)
 generalize X3+X3 / 256=X4 at *
 have b5:IntKind.u64.wrap ((X4:Int)+(X4:Int) / 65536)=((X4+X4 / 65536:Nat):Int):=by
  rw [show ((X4:Int)+(X4:Int) / 65536)=((X4+X4 / 65536:Nat):Int) by omega]
  exact W _ (by omega)
 generalize X4+X4 / 65536=X5 at *
 have b6:IntKind.u64.wrap ((X5:Int)+(X5:Int) / 4294967296)=((X5+X5 / 4294967296:Nat):Int):=by
  rw [show ((X5:Int)+(X5:Int) / 4294967296)=((X5+X5 / 4294967296:Nat):Int) by omega]
  exact W _ (by omega)
 generalize X5+X5 / 4294967296=X6 at *
 have b7:bits .and .i64 (X6:Int) 127=(r:Int):=by rw [i64_and127];omega
 have b8:wrap64 (X6:Int)=(X6:Int):=by simp [wrap64];omega
 clear s1 s2 s3 m0 m1 m2 l1 l2 l3 k4 k5 k7 W
 go_enter Tryz.func70,Tryz.ntmps70
 go_wp2
 go_ret
 exact ⟨rfl,rfl⟩
end Go.Proofs.YthgikffcdgpgiaaGreatDoor
