package impl

import (
	"strconv"
	"strings"
)

// Kinds of addresses, see chapter 3.
const (
	AddrNone  = 0
	AddrZero  = 1
	AddrLoop  = 2
	AddrGroup = 3
	AddrAll   = 4
	AddrSpare = 5
	AddrHost  = 6
)

// Prefix is all addresses that begin alike.
type Prefix struct {
	Addr, Bits int64
}

const (
	lastAddr = 1<<32 - 1
	lastMac  = 1<<48 - 1
	addrBits = 32
	// macText is the length of a hardware address's text: six groups of two digits, five signs between them.
	macText   = 6*2 + 5
	hexDigits = "0123456789abcdef"
)

// addrBytes is an address taken apart, the highest byte first.
type addrBytes [4]byte

// macBytes is a hardware address taken apart, the highest byte first.
type macBytes [6]byte

func isAddr(addr int64) bool { return addr >= 0 && addr <= lastAddr }

func isMac(mac int64) bool { return mac >= 0 && mac <= lastMac }

func splitAddr(addr int64) addrBytes {
	var parts addrBytes
	putNumber(parts[:], addr)
	return parts
}

func splitMac(mac int64) macBytes {
	var parts macBytes
	putNumber(parts[:], mac)
	return parts
}

// putNumber fills all of b with the low bytes of n, the highest of them first.
func putNumber(b []byte, n int64) {
	for i := range len(b) {
		b[len(b)-1-i] = byte(n >> (8 * i))
	}
}

// takeNumber is the other way of putNumber.
func takeNumber(b []byte) int64 {
	var n int64
	for _, x := range b {
		n = n<<8 | int64(x)
	}
	return n
}

// readDecimal takes a number from 0 to most without needless noughts. It stops at the first digit that leads
// beyond most, so that no text is too long for it.
func readDecimal(text string, most int64) (int64, bool) {
	if text == "" || len(text) > 1 && text[0] == '0' {
		return 0, false
	}
	var n int64
	for i := range len(text) {
		digit := text[i]
		if digit < '0' || digit > '9' {
			return 0, false
		}
		n = n*10 + int64(digit-'0')
		if n > most {
			return 0, false
		}
	}
	return n, true
}

func readHexDigit(digit byte) (byte, bool) {
	switch {
	case digit >= '0' && digit <= '9':
		return digit - '0', true
	case digit >= 'a' && digit <= 'f':
		return digit - 'a' + 10, true
	case digit >= 'A' && digit <= 'F':
		return digit - 'A' + 10, true
	}
	return 0, false
}

// ReadAddr reads an address, see chapter 3.
func ReadAddr(text string) (int64, int64) {
	var parts addrBytes
	rest := text
	for i := range len(parts) {
		word, behind, more := strings.Cut(rest, ".")
		if more != (i < len(parts)-1) {
			return 0, ErrText
		}
		n, ok := readDecimal(word, 255)
		if !ok {
			return 0, ErrText
		}
		parts[i] = byte(n)
		rest = behind
	}
	return takeNumber(parts[:]), OK
}

// ShowAddr writes an address, see chapter 3.
func ShowAddr(addr int64) (string, int64) {
	if !isAddr(addr) {
		return "", ErrForm
	}
	var text []byte
	for i, b := range splitAddr(addr) {
		if i > 0 {
			text = append(text, '.')
		}
		text = strconv.AppendInt(text, int64(b), 10)
	}
	return string(text), OK
}

// ReadMac reads a hardware address, see chapter 3.
func ReadMac(text string) (int64, int64) {
	if len(text) != macText {
		return 0, ErrText
	}
	var parts macBytes
	groups := 0
reading:
	for i := range len(parts) {
		if i > 0 && text[3*i-1] != ':' {
			break reading
		}
		for j := range 2 {
			n, ok := readHexDigit(text[3*i+j])
			if !ok {
				break reading
			}
			parts[i] = parts[i]<<4 | n
		}
		groups++
	}
	if groups < len(parts) {
		return 0, ErrText
	}
	return takeNumber(parts[:]), OK
}

// ShowMac writes a hardware address, see chapter 3.
func ShowMac(mac int64) (string, int64) {
	if !isMac(mac) {
		return "", ErrForm
	}
	var text []byte
	for i, b := range splitMac(mac) {
		if i > 0 {
			text = append(text, ':')
		}
		text = append(text, hexDigits[b>>4], hexDigits[b&15])
	}
	return string(text), OK
}

// hostPart is the number whose set bits are those behind a prefix's; bits must be from 0 to 32.
func hostPart(bits int64) int64 { return lastAddr >> bits }

// prefixAround is the prefix of that many bits that has addr; bits must be from 0 to 32.
func prefixAround(addr, bits int64) Prefix {
	return Prefix{Addr: addr &^ hostPart(bits), Bits: bits}
}

// validPrefix asks for the bits first: the others may not be asked with fewer or more of them.
func validPrefix(p Prefix) bool {
	return p.Bits >= 0 && p.Bits <= addrBits && isAddr(p.Addr) && p == prefixAround(p.Addr, p.Bits)
}

// ReadPrefix reads a prefix, see chapter 3.
func ReadPrefix(text string) (Prefix, int64) {
	word, behind, _ := strings.Cut(text, "/")
	addr, code := ReadAddr(word)
	if code != OK {
		return Prefix{}, ErrText
	}
	// Without a "/" nothing stands behind it, and nothing is no number.
	bits, ok := readDecimal(behind, addrBits)
	p := Prefix{Addr: addr, Bits: bits}
	if !ok || !validPrefix(p) {
		return Prefix{}, ErrText
	}
	return p, OK
}

// ShowPrefix writes a prefix, see chapter 3.
func ShowPrefix(p Prefix) (string, int64) {
	if !validPrefix(p) {
		return "", ErrForm
	}
	text, _ := ShowAddr(p.Addr)
	return text + "/" + strconv.FormatInt(p.Bits, 10), OK
}

// PrefixHas tells whether an address is in a prefix, see chapter 3.
func PrefixHas(p Prefix, addr int64) bool {
	return validPrefix(p) && isAddr(addr) && prefixAround(addr, p.Bits) == p
}

// Broadcast is the last address in a prefix, see chapter 3.
func Broadcast(p Prefix) int64 {
	if !validPrefix(p) {
		return -1
	}
	return p.Addr | hostPart(p.Bits)
}

// AddrKind tells of what kind an address is, see chapter 3.
func AddrKind(addr int64) int64 {
	if !isAddr(addr) {
		return AddrNone
	}
	parts := splitAddr(addr)
	switch {
	case parts == addrBytes{}:
		return AddrZero
	case parts[0] == 127:
		return AddrLoop
	case parts[0]>>4 == 14:
		return AddrGroup
	case parts == addrBytes{255, 255, 255, 255}:
		return AddrAll
	case parts[0]>>4 == 15:
		return AddrSpare
	}
	return AddrHost
}
