package tests

import (
	"fmt"
	"math"
	"strings"
	"testing"

	"loop.example/g00003/impl"
)

const (
	lastAddr = 1<<32 - 1
	lastMac  = 1<<48 - 1
)

func someAddrs() []int64 {
	chance := newChance()
	list := []int64{0, 1, 255, 256, 65535, 65536, 16777215, 16777216, 2147483647, 2147483648, lastAddr - 1, lastAddr}
	for x := range int64(256) {
		for shift := 0; shift < 32; shift += 8 {
			list = append(list, x<<shift)
		}
	}
	for range 300 {
		list = append(list, chance.Int63n(lastAddr+1))
	}
	return list
}

// somePrefixes are valid; many of them begin alike.
func somePrefixes() []impl.Prefix {
	chance := newChance()
	var list []impl.Prefix
	for bits := range int64(33) {
		for _, addr := range []int64{0, lastAddr, 0x0A000102, 0x0A0001FF, 0x0A010000, chance.Int63n(lastAddr + 1)} {
			list = append(list, impl.Prefix{Addr: addr >> (32 - bits) << (32 - bits), Bits: bits})
		}
	}
	return list
}

// illPrefixes are not valid, each for one reason.
func illPrefixes() []impl.Prefix {
	var list []impl.Prefix
	for bits := range int64(32) {
		for behind := range 32 - bits {
			list = append(list, impl.Prefix{Addr: 1 << behind, Bits: bits})
		}
		list = append(list, impl.Prefix{Addr: lastAddr, Bits: bits})
	}
	for _, bits := range []int64{-1, 33, 64, 65, 1 << 32, math.MinInt64, math.MaxInt64} {
		list = append(list, impl.Prefix{Addr: 0, Bits: bits}, impl.Prefix{Addr: lastAddr, Bits: bits})
	}
	for _, addr := range []int64{-1, -256, lastAddr + 1, 1 << 40, math.MinInt64, math.MaxInt64} {
		for _, bits := range []int64{0, 8, 32, 33} {
			list = append(list, impl.Prefix{Addr: addr, Bits: bits})
		}
	}
	return list
}

// oneByteOff are all texts with one byte replaced by another, one more, or one fewer.
func oneByteOff(text string) []string {
	var list []string
	for i := range len(text) + 1 {
		for x := range 256 {
			list = append(list, text[:i]+string([]byte{byte(x)})+text[i:])
			if i < len(text) {
				list = append(list, text[:i]+string([]byte{byte(x)})+text[i+1:])
			}
		}
		if i < len(text) {
			list = append(list, text[:i]+text[i+1:], text[:i])
		}
	}
	return list
}

// P4: addresses come back from their texts.
func TestAddrsComeBack(t *testing.T) {
	for _, addr := range someAddrs() {
		text, code := impl.ShowAddr(addr)
		want := fmt.Sprintf("%d.%d.%d.%d", addr>>24, addr>>16&255, addr>>8&255, addr&255)
		if text != want || code != impl.OK {
			t.Errorf("ShowAddr(%d): %q, %d, not %q", addr, text, code, want)
		}
		if got, code := impl.ReadAddr(text); got != addr || code != impl.OK {
			t.Errorf("ReadAddr(%q): %d, %d, not %d", text, got, code, addr)
		}
	}
}

func TestReadAddrRefuses(t *testing.T) {
	for _, text := range []string{
		"", ".", "...", "1", "1.2", "1.2.3", "1.2.3.", ".1.2.3", "1..2.3", "1.2.3.4.", ".1.2.3.4", "1.2.3.4.5", "1.2..3.4",
		"01.2.3.4", "1.02.3.4", "1.2.003.4", "1.2.3.00", "00.0.0.0", "0.0.0.000",
		"256.0.0.0", "0.256.0.0", "0.0.300.0", "0.0.0.256", "1000.0.0.0", "0.0.0.4294967296",
		"99999999999999999999.0.0.1", "0.0.0.18446744073709551616", "0.0.0.18446744073709551617",
		"-1.2.3.4", "+1.2.3.4", "1.2.3.-0", " 1.2.3.4", "1.2.3.4 ", "1. 2.3.4", "1.2.3.4\n", "1.2.3.4\x00", "1,2,3,4",
		"0x1.2.3.4", "a.b.c.d", "1.2.3.f", "1_0.2.3.4", "10.0.0.0/8", "1.2.3.\u0664", "\uff11.2.3.4", "1\u30022.3.4",
		"16909060", strings.Repeat("1", 5000), strings.Repeat("1.", 5000), strings.Repeat(".", 5000), "1.2.3." + strings.Repeat("0", 5000),
	} {
		if addr, code := impl.ReadAddr(text); addr != 0 || code != impl.ErrText {
			t.Errorf("ReadAddr(%.40q): %d, %d", text, addr, code)
		}
	}
}

// Each address has one text only, so what is read must show as it stood.
func TestReadAddrTakesOneTextEach(t *testing.T) {
	for _, text := range []string{"0.0.0.0", "10.0.1.2", "255.255.255.255", "99.100.249.250"} {
		for _, near := range oneByteOff(text) {
			addr, code := impl.ReadAddr(near)
			if code == impl.OK {
				if shown, _ := impl.ShowAddr(addr); shown != near {
					t.Errorf("ReadAddr(%q) is %s", near, shown)
				}
			} else if addr != 0 || code != impl.ErrText {
				t.Errorf("ReadAddr(%q): %d, %d", near, addr, code)
			}
		}
	}
}

func TestShowAddrRefuses(t *testing.T) {
	for _, addr := range edgeNumbers() {
		text, code := impl.ShowAddr(addr)
		if addr >= 0 && addr <= lastAddr {
			if code != impl.OK {
				t.Errorf("ShowAddr(%d): %d", addr, code)
			}
		} else if text != "" || code != impl.ErrForm {
			t.Errorf("ShowAddr(%d): %q, %d", addr, text, code)
		}
	}
}

// P4: hardware addresses come back from their texts, capital digits or not.
func TestMacsComeBack(t *testing.T) {
	chance := newChance()
	list := []int64{0, 1, lastMac - 1, lastMac, 0xABCDEF012345, 0x0A0B0C0D0E0F, 0x020000000001}
	for x := range int64(256) {
		for shift := 0; shift < 48; shift += 8 {
			list = append(list, x<<shift)
		}
	}
	for range 300 {
		list = append(list, chance.Int63n(lastMac+1))
	}
	for _, mac := range list {
		text, code := impl.ShowMac(mac)
		var groups []string
		for shift := 40; shift >= 0; shift -= 8 {
			groups = append(groups, fmt.Sprintf("%02x", mac>>shift&255))
		}
		if text != strings.Join(groups, ":") || code != impl.OK {
			t.Errorf("ShowMac(%x): %q, %d", mac, text, code)
		}
		for _, as := range []string{text, strings.ToUpper(text), strings.ToUpper(text[:9]) + text[9:]} {
			if got, code := impl.ReadMac(as); got != mac || code != impl.OK {
				t.Errorf("ReadMac(%q): %x, %d, not %x", as, got, code, mac)
			}
		}
	}
}

func TestReadMacRefuses(t *testing.T) {
	for _, text := range []string{
		"", ":", ":::::", "02", "02:00:00:00:00", "02:00:00:00:00:", "02:00:00:00:00:0a:", ":02:00:00:00:00:0a",
		"02:00:00:00:00:0a:00", "2:0:0:0:0:a", "02:00:00:00:00:a", "002:00:00:00:00:0", "02-00-00-00-00-0a",
		"0200.0000.000a", "02000000000a", "02:00:00:00:000a:", "020:0:00:00:00:0a", "02:00:00:00:00:0g", "02:00:00:00:00:g0",
		"0G:00:00:00:00:0a", "02:00:00:00:00:-1", "02:00:00:00:00:+1", "02:00:00:00:00: a", " 02:00:00:00:00:0a",
		"02:00:00:00:00:0a ", "02:00:00:00:00:0a\n", "02:00:00:00:00:0x", "02:00:00:00:00;0a", "02:00:00:00:00:\u0661",
		"/0:00:00:00:00:00", "@0:00:00:00:00:00", "`0:00:00:00:00:00", "::::::::::::::::1", strings.Repeat("00:", 5000), strings.Repeat("0", 17),
	} {
		if mac, code := impl.ReadMac(text); mac != 0 || code != impl.ErrText {
			t.Errorf("ReadMac(%.40q): %d, %d", text, mac, code)
		}
	}
}

func TestReadMacTakesOneTextEach(t *testing.T) {
	for _, text := range []string{"00:00:00:00:00:00", "02:00:5e:AB:cd:0f", "ff:ff:ff:ff:ff:ff"} {
		for _, near := range oneByteOff(text) {
			mac, code := impl.ReadMac(near)
			if code == impl.OK {
				if shown, _ := impl.ShowMac(mac); shown != strings.ToLower(near) {
					t.Errorf("ReadMac(%q) is %s", near, shown)
				}
			} else if mac != 0 || code != impl.ErrText {
				t.Errorf("ReadMac(%q): %d, %d", near, mac, code)
			}
		}
	}
}

func TestShowMacRefuses(t *testing.T) {
	for _, mac := range edgeNumbers() {
		text, code := impl.ShowMac(mac)
		if mac >= 0 && mac <= lastMac {
			if code != impl.OK {
				t.Errorf("ShowMac(%d): %d", mac, code)
			}
		} else if text != "" || code != impl.ErrForm {
			t.Errorf("ShowMac(%d): %q, %d", mac, text, code)
		}
	}
}

// P4: valid prefixes come back from their texts.
func TestPrefixesComeBack(t *testing.T) {
	for _, p := range somePrefixes() {
		text, code := impl.ShowPrefix(p)
		addr, _ := impl.ShowAddr(p.Addr)
		if want := fmt.Sprintf("%s/%d", addr, p.Bits); text != want || code != impl.OK {
			t.Errorf("ShowPrefix(%v): %q, %d, not %q", p, text, code, want)
		}
		if got, code := impl.ReadPrefix(text); got != p || code != impl.OK {
			t.Errorf("ReadPrefix(%q): %v, %d, not %v", text, got, code, p)
		}
	}
}

func TestReadPrefixRefuses(t *testing.T) {
	for _, text := range []string{
		"", "/", "/8", "8", "10.0.0.0", "10.0.0.0/", "10.0.0.0//8", "10.0.0.0/8/", "10.0.0.0/8/8", "/10.0.0.0/8",
		"10.0.0.0/08", "10.0.0.0/00", "0.0.0.0/00", "0.0.0.0/000", "10.0.0.0/33", "0.0.0.0/33", "0.0.0.0/320", "0.0.0.0/-1", "0.0.0.0/-0", "0.0.0.0/+8",
		"0.0.0.0/4294967296", "0.0.0.0/18446744073709551616", "0.0.0.0/18446744073709551624", "0.0.0.0/ 8", "0.0.0.0/8 ", " 0.0.0.0/8", "0.0.0.0 /8", "0.0.0.0/8\n",
		"10.0.0/8", "10/8", "10.0.0.0.0/8", "010.0.0.0/8", "256.0.0.0/8", "10.0.0.0/x", "10.0.0.0/0x8", "any",
		"10.0.0.1/8", "10.128.0.0/8", "0.0.0.1/0", "128.0.0.0/0", "255.255.255.255/31", "1.2.3.4/29", "10.0.0.0/6", "10.0.0.0\\8",
		"0.0.0.0/" + strings.Repeat("0", 5000), "0.0.0.0/" + strings.Repeat("8", 5000), strings.Repeat("0.0.0.0/", 5000),
	} {
		if p, code := impl.ReadPrefix(text); p != (impl.Prefix{}) || code != impl.ErrText {
			t.Errorf("ReadPrefix(%.40q): %v, %d", text, p, code)
		}
	}
}

func TestReadPrefixTakesOneTextEach(t *testing.T) {
	for _, text := range []string{"0.0.0.0/0", "10.0.0.0/8", "10.0.1.2/32", "192.168.254.0/23"} {
		for _, near := range oneByteOff(text) {
			p, code := impl.ReadPrefix(near)
			if code == impl.OK {
				if shown, _ := impl.ShowPrefix(p); shown != near {
					t.Errorf("ReadPrefix(%q) is %s", near, shown)
				}
			} else if p != (impl.Prefix{}) || code != impl.ErrText {
				t.Errorf("ReadPrefix(%q): %v, %d", near, p, code)
			}
		}
	}
}

func TestIllPrefixes(t *testing.T) {
	for _, p := range illPrefixes() {
		if text, code := impl.ShowPrefix(p); text != "" || code != impl.ErrForm {
			t.Errorf("ShowPrefix(%v): %q, %d", p, text, code)
		}
		if got := impl.Broadcast(p); got != -1 {
			t.Errorf("Broadcast(%v): %d", p, got)
		}
		for _, addr := range []int64{0, 1, p.Addr, lastAddr} {
			if impl.PrefixHas(p, addr) {
				t.Errorf("PrefixHas(%v, %d)", p, addr)
			}
		}
		if p.Addr >= 0 && p.Addr <= lastAddr {
			addr, _ := impl.ShowAddr(p.Addr)
			text := fmt.Sprintf("%s/%d", addr, p.Bits)
			if got, code := impl.ReadPrefix(text); got != (impl.Prefix{}) || code != impl.ErrText {
				t.Errorf("ReadPrefix(%q): %v, %d", text, got, code)
			}
		}
	}
}

// P5: Broadcast is the last address in a prefix.
func TestBroadcastIsTheLast(t *testing.T) {
	for _, p := range somePrefixes() {
		last := impl.Broadcast(p)
		if want := p.Addr + 1<<(32-p.Bits) - 1; last != want {
			t.Errorf("Broadcast(%v): %d, not %d", p, last, want)
		}
		if !impl.PrefixHas(p, p.Addr) || !impl.PrefixHas(p, last) || !impl.PrefixHas(p, (p.Addr+last)/2) {
			t.Errorf("%v does not have its own addresses", p)
		}
		if impl.PrefixHas(p, p.Addr-1) || impl.PrefixHas(p, last+1) {
			t.Errorf("%v has an address beside it", p)
		}
	}
}

// P5: of two valid prefixes one lies in the other, or they have no address in common.
func TestPrefixesLieInEachOtherOrApart(t *testing.T) {
	list := somePrefixes()
	for _, p := range list {
		for _, q := range list {
			wide, narrow := p, q
			if wide.Bits > narrow.Bits {
				wide, narrow = q, p
			}
			inside := impl.PrefixHas(wide, narrow.Addr)
			if impl.PrefixHas(wide, impl.Broadcast(narrow)) != inside {
				t.Fatalf("%v is cut by %v", narrow, wide)
			}
			apart := impl.Broadcast(p) < q.Addr || impl.Broadcast(q) < p.Addr
			if inside == apart {
				t.Fatalf("%v and %v: inside %v, apart %v", p, q, inside, apart)
			}
			for _, addr := range []int64{p.Addr, impl.Broadcast(p), q.Addr, impl.Broadcast(q), p.Addr - 1, impl.Broadcast(q) + 1} {
				if impl.PrefixHas(p, addr) && impl.PrefixHas(q, addr) && !inside {
					t.Fatalf("%v and %v have %d in common", p, q, addr)
				}
			}
		}
	}
}

func TestPrefixHasOnlyAddresses(t *testing.T) {
	all := impl.Prefix{}
	for _, addr := range edgeNumbers() {
		if impl.PrefixHas(all, addr) != (addr >= 0 && addr <= lastAddr) {
			t.Errorf("PrefixHas(%v, %d): %v", all, addr, impl.PrefixHas(all, addr))
		}
		// The low 32 bits alone must not do.
		one := impl.Prefix{Addr: addr & lastAddr, Bits: 32}
		if impl.PrefixHas(one, addr) != (addr >= 0 && addr <= lastAddr) {
			t.Errorf("PrefixHas(%v, %d): %v", one, addr, impl.PrefixHas(one, addr))
		}
	}
}

func TestAddrKind(t *testing.T) {
	for _, c := range []struct {
		text string
		want int64
	}{
		{"0.0.0.0", impl.AddrZero}, {"0.0.0.1", impl.AddrHost}, {"0.255.255.255", impl.AddrHost}, {"1.0.0.0", impl.AddrHost},
		{"126.255.255.255", impl.AddrHost}, {"127.0.0.0", impl.AddrLoop}, {"127.255.255.255", impl.AddrLoop}, {"128.0.0.0", impl.AddrHost},
		{"223.255.255.255", impl.AddrHost}, {"224.0.0.0", impl.AddrGroup}, {"239.255.255.255", impl.AddrGroup},
		{"240.0.0.0", impl.AddrSpare}, {"255.0.0.0", impl.AddrSpare}, {"255.255.255.254", impl.AddrSpare}, {"255.255.255.255", impl.AddrAll},
		{"10.0.0.255", impl.AddrHost}, {"192.168.0.1", impl.AddrHost},
	} {
		addr, _ := impl.ReadAddr(c.text)
		if got := impl.AddrKind(addr); got != c.want {
			t.Errorf("AddrKind of %s: %d, not %d", c.text, got, c.want)
		}
	}
	for _, addr := range edgeNumbers() {
		if none := impl.AddrKind(addr) == impl.AddrNone; none != (addr < 0 || addr > lastAddr) {
			t.Errorf("AddrKind(%d): %d", addr, impl.AddrKind(addr))
		}
	}
}

// P51: texts of any bytes and any numbers are answered, and answered the same again.
func TestAddressesAnswerTheSameAgain(t *testing.T) {
	chance := newChance()
	texts := []string{"", "10.0.1.2", "10.0.0.0/8", "02:00:00:00:00:0A", "\xff\xfe", "1.2.3.\xf0", strings.Repeat("9", 20000)}
	const signs = "0123456789abF.:/ \x00\xc3"
	for range 2000 {
		b := make([]byte, chance.Intn(20))
		for i := range b {
			b[i] = signs[chance.Intn(len(signs))]
		}
		texts = append(texts, string(b))
	}
	for _, text := range texts {
		addr, code := impl.ReadAddr(text)
		if again, c := impl.ReadAddr(text); again != addr || c != code || code != impl.OK && addr != 0 {
			t.Errorf("ReadAddr(%.40q): %d, %d, then %d, %d", text, addr, code, again, c)
		}
		mac, code := impl.ReadMac(text)
		if again, c := impl.ReadMac(text); again != mac || c != code || code != impl.OK && mac != 0 {
			t.Errorf("ReadMac(%.40q): %d, %d, then %d, %d", text, mac, code, again, c)
		}
		p, code := impl.ReadPrefix(text)
		if again, c := impl.ReadPrefix(text); again != p || c != code || code != impl.OK && p != (impl.Prefix{}) {
			t.Errorf("ReadPrefix(%.40q): %v, %d, then %v, %d", text, p, code, again, c)
		}
	}
	for _, a := range edgeNumbers() {
		for _, b := range edgeNumbers() {
			p := impl.Prefix{Addr: a, Bits: b}
			if last := impl.Broadcast(p); last < -1 || last > lastAddr || last != impl.Broadcast(p) {
				t.Errorf("Broadcast(%v): %d", p, last)
			}
			if text, code := impl.ShowPrefix(p); (text == "") != (code != impl.OK) {
				t.Errorf("ShowPrefix(%v): %q, %d", p, text, code)
			}
			if has := impl.PrefixHas(p, b); has != impl.PrefixHas(p, b) {
				t.Errorf("PrefixHas(%v, %d) changes", p, b)
			}
		}
	}
}
