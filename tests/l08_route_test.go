package tests

import (
	"fmt"
	"math"
	"math/rand"
	"regexp"
	"slices"
	"strconv"
	"strings"
	"testing"

	"loop.example/g00003/impl"
)

const (
	lastLink   = 7
	mostMetric = 1000000
	// gateway is an address that a route may lead over.
	gateway = ownAddr + 200
)

// validInterval is the addresses of a prefix as numbers from one to another; false if the prefix is not valid.
func validInterval(p impl.Prefix) (from, to int64, valid bool) {
	if p.Bits < 0 || p.Bits > 32 || p.Addr < 0 || p.Addr > lastAddr {
		return 0, 0, false
	}
	size := int64(1) << (32 - p.Bits)
	return p.Addr, p.Addr + size - 1, p.Addr%size == 0
}

func modelValidRoute(r impl.Route) bool {
	_, _, valid := validInterval(r.Prefix)
	return valid && (r.Via == 0 || hostAddr(r.Via)) && r.Link >= 0 && r.Link <= 7 && r.Metric >= 0 && r.Metric <= 1000000
}

func modelHas(p impl.Prefix, addr int64) bool {
	from, to, valid := validInterval(p)
	return valid && addr >= from && addr <= to
}

// modelFindRoute goes through the list and keeps what is better than all ahead of it.
func modelFindRoute(list []impl.Route, dst int64) (impl.Route, bool) {
	var best impl.Route
	found := false
	for _, r := range list {
		if !modelValidRoute(r) || !modelHas(r.Prefix, dst) {
			continue
		}
		if !found || r.Prefix.Bits > best.Prefix.Bits || r.Prefix.Bits == best.Prefix.Bits && r.Metric < best.Metric {
			best, found = r, true
		}
	}
	return best, found
}

// routeLine is a line of a text of routes, without what stands behind a #.
var routeLine = regexp.MustCompile(`\A[ \t]*([0-9.]+/[0-9]+)(?:[ \t]+via[ \t]+([0-9.]+))?[ \t]+link[ \t]+(0|[1-9][0-9]{0,9})(?:[ \t]+metric[ \t]+(0|[1-9][0-9]{0,9}))?[ \t]*\z`)

// modelRoute reads a line by its form as a whole.
func modelRoute(line string) (impl.Route, bool) {
	parts := routeLine.FindStringSubmatch(line)
	if parts == nil {
		return impl.Route{}, false
	}
	var r impl.Route
	var code int64
	if r.Prefix, code = impl.ReadPrefix(parts[1]); code != impl.OK {
		return impl.Route{}, false
	}
	if parts[2] != "" {
		if r.Via, code = impl.ReadAddr(parts[2]); code != impl.OK || r.Via == 0 {
			return impl.Route{}, false
		}
	}
	r.Link, _ = strconv.ParseInt(parts[3], 10, 64)
	if parts[4] != "" {
		r.Metric, _ = strconv.ParseInt(parts[4], 10, 64)
	}
	return r, modelValidRoute(r)
}

func modelReadRoutes(text string) ([]impl.Route, int64, int64) {
	if len(text) > 20000 {
		return nil, impl.ErrSize, 0
	}
	var list []impl.Route
	for i, line := range strings.Split(text, "\n") {
		line = strings.SplitN(line, "#", 2)[0]
		if strings.Trim(line, " \t") == "" {
			continue
		}
		r, ok := modelRoute(line)
		if !ok {
			return nil, impl.ErrSyntax, int64(i + 1)
		}
		if len(list) == 64 {
			return nil, impl.ErrCount, int64(i + 1)
		}
		list = append(list, r)
	}
	return list, impl.OK, 0
}

func plainAddr(addr int64) string {
	return fmt.Sprintf("%d.%d.%d.%d", addr>>24, addr>>16&255, addr>>8&255, addr&255)
}

// plainRoute is a valid route's line, with its newline, written apart from the program.
func plainRoute(r impl.Route) string {
	line := fmt.Sprintf("%s/%d", plainAddr(r.Prefix.Addr), r.Prefix.Bits)
	if r.Via != 0 {
		line += " via " + plainAddr(r.Via)
	}
	line += fmt.Sprintf(" link %d", r.Link)
	if r.Metric != 0 {
		line += fmt.Sprintf(" metric %d", r.Metric)
	}
	return line + "\n"
}

func plainRoutes(list []impl.Route) string {
	var text strings.Builder
	for _, r := range list {
		text.WriteString(plainRoute(r))
	}
	return text.String()
}

func checkFind(t *testing.T, list []impl.Route, dst int64, want impl.Route, found bool) {
	t.Helper()
	got, ok := impl.FindRoute(list, dst)
	model, modelOk := modelFindRoute(list, dst)
	if got != want || ok != found || got != model || ok != modelOk {
		t.Errorf("FindRoute(%s, %d): %v, %v, not %v, %v", shortly(list), dst, got, ok, want, found)
	}
}

// checkAsModel asks for what the model finds, where a test's own words do not tell it.
func checkAsModel(t *testing.T, list []impl.Route, dst int64) {
	t.Helper()
	want, found := modelFindRoute(list, dst)
	checkFind(t, list, dst, want, found)
}

// checkRead asks for the routes with OK, and for nothing but the code and the line else.
func checkRead(t *testing.T, text string, want []impl.Route, code, line int64) {
	t.Helper()
	got, gotCode, gotLine := impl.ReadRoutes(text)
	model, modelCode, modelLine := modelReadRoutes(text)
	if !slices.Equal(got, want) || gotCode != code || gotLine != line {
		t.Errorf("ReadRoutes(%.200q): %s, %d, %d, not %s, %d, %d", text, shortly(got), gotCode, gotLine, shortly(want), code, line)
	}
	if !slices.Equal(got, model) || gotCode != modelCode || gotLine != modelLine {
		t.Errorf("ReadRoutes(%.200q): %s, %d, %d; the model: %s, %d, %d", text, shortly(got), gotCode, gotLine, shortly(model), modelCode, modelLine)
	}
}

func checkReads(t *testing.T, text string, want ...impl.Route) {
	t.Helper()
	checkRead(t, text, want, impl.OK, 0)
}

func checkReadAsModel(t *testing.T, text string) {
	t.Helper()
	want, code, line := modelReadRoutes(text)
	checkRead(t, text, want, code, line)
}

func checkShow(t *testing.T, list []impl.Route, want string, code int64) {
	t.Helper()
	if got, gotCode := impl.ShowRoutes(list); got != want || gotCode != code {
		t.Errorf("ShowRoutes(%s): %.200q, %d, not %.200q, %d", shortly(list), got, gotCode, want, code)
	}
}

// routeTo is a route over the link 0, straight to its addresses.
func routeTo(addr, bits int64) impl.Route {
	return impl.Route{Prefix: impl.Prefix{Addr: addr, Bits: bits}}
}

// withMetric is like r but for two numbers, so that it can be told from others of its prefix.
func withMetric(r impl.Route, link, metric int64) impl.Route {
	r.Link, r.Metric = link, metric
	return r
}

// illRoutes are not valid, each for one reason; where that is not the prefix they would have every address.
func illRoutes() []impl.Route {
	all := routeTo(0, 0)
	var list []impl.Route
	for _, p := range illPrefixes() {
		list = append(list, impl.Route{Prefix: p}, impl.Route{Prefix: p, Via: gateway, Link: 7, Metric: 1})
	}
	for _, p := range []impl.Prefix{{Addr: ownAddr, Bits: 31}, {Addr: ownAddr, Bits: 33}, {Addr: ownAddr, Bits: 24}, {Addr: ownAddr + 1<<32, Bits: 32}} {
		list = append(list, impl.Route{Prefix: p})
	}
	for _, addr := range append(edgeNumbers(), addrsOfEachKind()...) {
		if addr != 0 && !hostAddr(addr) {
			via := all
			via.Via = addr
			list = append(list, via)
		}
	}
	for _, n := range append(edgeNumbers(), 8, 9, mostMetric+1, 2*mostMetric) {
		if n < 0 || n > lastLink {
			list = append(list, withMetric(all, n, 0))
		}
		if n < 0 || n > mostMetric {
			list = append(list, withMetric(all, 0, n))
		}
	}
	return list
}

// edgeRoutes are valid, with each of their numbers at both ends of its range.
func edgeRoutes() []impl.Route {
	var list []impl.Route
	for _, p := range somePrefixes() {
		list = append(list, impl.Route{Prefix: p}, impl.Route{Prefix: p, Via: gateway, Link: 3, Metric: 20})
	}
	for _, addr := range addrsOfEachKind() {
		if addr == 0 || hostAddr(addr) {
			list = append(list, impl.Route{Via: addr}, impl.Route{Via: addr, Link: lastLink, Metric: mostMetric})
		}
	}
	for link := range int64(lastLink + 1) {
		for _, metric := range []int64{0, 1, 9, 10, 99999, 100000, mostMetric - 1, mostMetric} {
			list = append(list, withMetric(routeTo(10<<24, 8), link, metric))
		}
	}
	return list
}

// randomRoute is valid; its prefix is one of few, so that routes lie in each other and meet.
func randomRoute(chance *rand.Rand) impl.Route {
	addrs := []int64{0, lastAddr, 10 << 24, 10<<24 + 1, 10<<24 + 1<<16, 127<<24 + 1, 1 << 31, chance.Int63n(lastAddr + 1)}
	bits := []int64{0, 1, 7, 8, 16, 23, 24, 30, 31, 32, chance.Int63n(33)}
	hosts := []int64{0, 0, 1, gateway, 127<<24 - 1, 128 << 24, 224<<24 - 1}
	metrics := []int64{0, 0, 1, 2, mostMetric, chance.Int63n(mostMetric + 1)}
	n := bits[chance.Intn(len(bits))]
	addr := addrs[chance.Intn(len(addrs))] >> (32 - n) << (32 - n)
	return impl.Route{
		Prefix: impl.Prefix{Addr: addr, Bits: n}, Via: hosts[chance.Intn(len(hosts))],
		Link: chance.Int63n(lastLink + 1), Metric: metrics[chance.Intn(len(metrics))],
	}
}

func randomRoutes(chance *rand.Rand, n int) []impl.Route {
	var list []impl.Route
	for range n {
		list = append(list, randomRoute(chance))
	}
	return list
}

// withIllOnes has routes that are not valid among the others.
func withIllOnes(chance *rand.Rand, list []impl.Route) []impl.Route {
	ill := illRoutes()
	for range chance.Intn(5) {
		list = slices.Insert(list, chance.Intn(len(list)+1), ill[chance.Intn(len(ill))])
	}
	return list
}

// placesOf are the addresses at both ends of all prefixes and beside them, and numbers that are none.
func placesOf(list []impl.Route) []int64 {
	places := []int64{-1, 0, 1, 1 << 31, lastAddr - 1, lastAddr, lastAddr + 1, math.MinInt64, math.MaxInt64}
	for _, r := range list {
		if from, to, valid := validInterval(r.Prefix); valid {
			places = append(places, from-1, from, from+1, to-1, to, to+1, (from+to)/2)
		}
	}
	return places
}

func TestFindRouteAmongFew(t *testing.T) {
	all := impl.Route{Via: gateway, Link: 1}
	ten := routeTo(10<<24, 8)
	checkFind(t, nil, ownAddr, impl.Route{}, false)
	checkFind(t, []impl.Route{}, ownAddr, impl.Route{}, false)
	checkFind(t, []impl.Route{ten}, ownAddr, ten, true)
	checkFind(t, []impl.Route{ten}, 11<<24, impl.Route{}, false)
	checkFind(t, []impl.Route{ten}, 10<<24-1, impl.Route{}, false)
	for _, list := range [][]impl.Route{{all, ten}, {ten, all}} {
		checkFind(t, list, ownAddr, ten, true)
		checkFind(t, list, 10<<24, ten, true)
		checkFind(t, list, 11<<24-1, ten, true)
		checkFind(t, list, 11<<24, all, true)
		checkFind(t, list, 0, all, true)
		checkFind(t, list, lastAddr, all, true)
	}
}

// The zero route is found like any other: whether there is one is told beside it.
func TestFindRouteTellsTheZeroRoute(t *testing.T) {
	for _, dst := range []int64{0, 1, ownAddr, 1 << 31, lastAddr} {
		checkFind(t, []impl.Route{{}}, dst, impl.Route{}, true)
	}
	for _, dst := range edgeNumbers() {
		checkFind(t, []impl.Route{{}}, dst, impl.Route{}, dst >= 0 && dst <= lastAddr)
	}
}

// More bits count ahead of a lesser metric, and of a place nearer to the front.
func TestFindRouteTakesTheMostBits(t *testing.T) {
	dst := int64(0xA5C3F00F)
	for low := range int64(33) {
		for high := low + 1; high <= 32; high++ {
			wide := withMetric(routeTo(dst>>(32-low)<<(32-low), low), 1, 0)
			narrow := withMetric(routeTo(dst>>(32-high)<<(32-high), high), 2, mostMetric)
			checkFind(t, []impl.Route{wide, narrow}, dst, narrow, true)
			checkFind(t, []impl.Route{narrow, wide}, dst, narrow, true)
			// The address with the last of the narrow one's bits turned is in the wide one alone.
			checkFind(t, []impl.Route{wide, narrow}, dst^1<<(32-high), wide, true)
			checkFind(t, []impl.Route{narrow, wide}, dst^1<<(32-high), wide, true)
		}
	}
}

func TestFindRouteTakesTheLeastMetric(t *testing.T) {
	for _, bits := range []int64{0, 1, 8, 31, 32} {
		dst := int64(0xA5C3F00F)
		base := routeTo(dst>>(32-bits)<<(32-bits), bits)
		for _, pair := range [][2]int64{{0, 1}, {0, mostMetric}, {1, 2}, {9, 10}, {mostMetric - 1, mostMetric}} {
			less, more := withMetric(base, 1, pair[0]), withMetric(base, 2, pair[1])
			checkFind(t, []impl.Route{less, more}, dst, less, true)
			checkFind(t, []impl.Route{more, less}, dst, less, true)
			checkFind(t, []impl.Route{more, less, more}, dst, less, true)
			checkFind(t, []impl.Route{more, more, routeTo(0, 1), less, less}, dst, less, true)
		}
	}
}

// With as many bits and the same metric the first counts, whatever its link and way are.
func TestFindRouteTakesTheFirst(t *testing.T) {
	for _, bits := range []int64{0, 1, 16, 31, 32} {
		for _, metric := range []int64{0, 1, mostMetric} {
			base := withMetric(routeTo(ownAddr>>(32-bits)<<(32-bits), bits), 4, metric)
			over := base
			over.Via = gateway
			list := []impl.Route{base, withMetric(base, 0, metric), over, withMetric(base, 7, metric)}
			for _, order := range orders(list) {
				checkFind(t, order, ownAddr, order[0], true)
			}
			checkFind(t, []impl.Route{base, base}, ownAddr, base, true)
		}
	}
}

func TestFindRouteOfFewAndOfAllBits(t *testing.T) {
	low, high := withMetric(routeTo(0, 1), 1, 0), withMetric(routeTo(1<<31, 1), 2, 0)
	one, pair := withMetric(routeTo(ownAddr, 32), 3, 9), withMetric(routeTo(ownAddr-1, 31), 4, 0)
	last, lastPair := withMetric(routeTo(lastAddr, 32), 5, 9), withMetric(routeTo(lastAddr-1, 31), 6, 0)
	for _, list := range orders([]impl.Route{low, high, one, pair, last, lastPair}) {
		for _, c := range []struct {
			dst  int64
			want impl.Route
		}{
			{0, low}, {1<<31 - 1, low}, {1 << 31, high}, {lastAddr - 2, high}, {lastAddr - 1, lastPair}, {lastAddr, last},
			{ownAddr - 2, low}, {ownAddr - 1, pair}, {ownAddr, one}, {ownAddr + 1, low},
		} {
			checkFind(t, list, c.dst, c.want, true)
		}
	}
	checkFind(t, []impl.Route{one, pair}, ownAddr+1, impl.Route{}, false)
	checkFind(t, []impl.Route{high, one}, 0, impl.Route{}, false)
}

// Each address of a small neighbourhood, with routes of all lengths there in any order.
func TestFindRouteInANeighbourhood(t *testing.T) {
	chance := newChance()
	for range 200 {
		var list []impl.Route
		for range 1 + chance.Intn(20) {
			bits := 26 + chance.Int63n(7)
			addr := (ownAddr&^63 + chance.Int63n(64)) >> (32 - bits) << (32 - bits)
			list = append(list, withMetric(routeTo(addr, bits), chance.Int63n(8), chance.Int63n(3)))
		}
		for dst := int64(ownAddr&^63 - 1); dst <= ownAddr&^63+64; dst++ {
			checkAsModel(t, list, dst)
		}
	}
}

// A route that is not valid is as if it were not there, however good it would be.
func TestFindRouteLeavesOutIllRoutes(t *testing.T) {
	all := withMetric(routeTo(0, 0), 5, mostMetric)
	for _, ill := range illRoutes() {
		for _, dst := range []int64{ill.Prefix.Addr, ownAddr, 0, lastAddr, -1, lastAddr + 1} {
			checkFind(t, []impl.Route{ill}, dst, impl.Route{}, false)
			want, found := all, true
			if dst < 0 || dst > lastAddr {
				want, found = impl.Route{}, false
			}
			checkFind(t, []impl.Route{ill, all}, dst, want, found)
			checkFind(t, []impl.Route{all, ill}, dst, want, found)
			checkFind(t, []impl.Route{ill, all, ill}, dst, want, found)
		}
	}
	list := append(illRoutes(), all)
	checkFind(t, list, ownAddr, all, true)
	checkFind(t, illRoutes(), ownAddr, impl.Route{}, false)
}

func TestFindRouteTakesEachValidOne(t *testing.T) {
	for _, r := range edgeRoutes() {
		for _, dst := range placesOf([]impl.Route{r}) {
			want, found := r, modelHas(r.Prefix, dst)
			if !found {
				want = impl.Route{}
			}
			checkFind(t, []impl.Route{r}, dst, want, found)
		}
	}
}

// The numbers of a route, each asked for at and beside the ends of its range.
func TestFindRouteAsksTheNumbers(t *testing.T) {
	for _, c := range []struct {
		r     impl.Route
		valid bool
	}{
		{impl.Route{Link: -1}, false}, {impl.Route{Link: 0}, true}, {impl.Route{Link: 7}, true}, {impl.Route{Link: 8}, false},
		{impl.Route{Metric: -1}, false}, {impl.Route{Metric: 0}, true}, {impl.Route{Metric: 1000000}, true}, {impl.Route{Metric: 1000001}, false},
		{impl.Route{Via: -1}, false}, {impl.Route{Via: 0}, true}, {impl.Route{Via: 1}, true}, {impl.Route{Via: gateway}, true},
		{impl.Route{Via: 127<<24 - 1}, true}, {impl.Route{Via: 127 << 24}, false}, {impl.Route{Via: 128 << 24}, true},
		{impl.Route{Via: 224<<24 - 1}, true}, {impl.Route{Via: 224 << 24}, false}, {impl.Route{Via: 240 << 24}, false},
		{impl.Route{Via: lastAddr}, false}, {impl.Route{Via: lastAddr + 1}, false}, {impl.Route{Via: 1<<32 + gateway}, false},
	} {
		want := c.r
		if !c.valid {
			want = impl.Route{}
		}
		checkFind(t, []impl.Route{c.r}, ownAddr, want, c.valid)
		if c.valid {
			checkShow(t, []impl.Route{c.r}, plainRoute(c.r), impl.OK)
		} else {
			checkShow(t, []impl.Route{c.r}, "", impl.ErrForm)
		}
	}
}

// A list may have more routes than a text: FindRoute does not ask how many there are.
func TestFindRouteInLongLists(t *testing.T) {
	chance := newChance()
	for _, n := range []int{impl.MaxRoutes - 1, impl.MaxRoutes, impl.MaxRoutes + 1, 5000} {
		list := randomRoutes(chance, n)
		for i := range list {
			list[i].Prefix.Bits = max(list[i].Prefix.Bits, 1)
		}
		best := withMetric(routeTo(gateway, 32), 6, 0)
		list = append(list, withMetric(best, 5, 1), best)
		checkFind(t, list, gateway, best, true)
		for _, dst := range placesOf(list[:20]) {
			checkAsModel(t, list, dst)
		}
	}
	var each []impl.Route
	for n := range int64(200000) {
		each = append(each, withMetric(routeTo(n*20011&lastAddr, 32), n%8, n))
	}
	for _, n := range []int64{0, 1, 99999, 199999} {
		checkFind(t, each, each[n].Prefix.Addr, each[n], true)
		checkFind(t, each, each[n].Prefix.Addr+1, impl.Route{}, false)
	}
}

// P14: a valid route that has the address is found just if there is one, and none is better; ill ones are among them.
func TestFoundRoutesAreBest(t *testing.T) {
	chance := newChance()
	hits := 0
	for range 1500 {
		list := withIllOnes(chance, randomRoutes(chance, chance.Intn(20)))
		for _, dst := range placesOf(list) {
			got, found := impl.FindRoute(list, dst)
			there := false
			for _, r := range list {
				if !modelValidRoute(r) || !modelHas(r.Prefix, dst) {
					continue
				}
				there = true
				if r.Prefix.Bits > got.Prefix.Bits || r.Prefix.Bits == got.Prefix.Bits && r.Metric < got.Metric {
					t.Fatalf("FindRoute(%v, %d): %v, but %v is better", list, dst, got, r)
				}
			}
			if found != there || found && (!slices.Contains(list, got) || !modelValidRoute(got) || !modelHas(got.Prefix, dst)) {
				t.Fatalf("FindRoute(%v, %d): %v, %v, not %v", list, dst, got, found, there)
			}
			if found {
				hits++
			}
			checkAsModel(t, list, dst)
		}
	}
	if hits < 1000 {
		t.Errorf("found %d times only", hits)
	}
}

func TestRoutesOfAText(t *testing.T) {
	text := "# the ways out of here\n\n10.0.0.0/8 link 0\n  192.168.1.0/24\tvia 10.0.0.7 link 1#near\n" +
		"\t\n0.0.0.0/0 via 10.0.0.1 link 7 metric 1000000\n1.2.3.4/32 link 2 metric 0 # itself # and more\n   # the end"
	list := []impl.Route{
		{Prefix: impl.Prefix{Addr: 10 << 24, Bits: 8}},
		{Prefix: impl.Prefix{Addr: 192<<24 + 168<<16 + 1<<8, Bits: 24}, Via: 10<<24 + 7, Link: 1},
		{Via: 10<<24 + 1, Link: 7, Metric: 1000000},
		{Prefix: impl.Prefix{Addr: 0x01020304, Bits: 32}, Link: 2},
	}
	checkReads(t, text, list...)
	checkShow(t, list, "10.0.0.0/8 link 0\n192.168.1.0/24 via 10.0.0.7 link 1\n"+
		"0.0.0.0/0 via 10.0.0.1 link 7 metric 1000000\n1.2.3.4/32 link 2\n", impl.OK)
}

func TestTextsWithoutRoutes(t *testing.T) {
	for _, text := range []string{
		"", "\n", "\n\n\n", " ", "\t", " \t \n\t \t", "#", "##", "# 10.0.0.0/8 link 0", "#\n#\n", " #\n\t#x\n", "#\x00\xff\r\v\f", "\n#",
		"# 10.0.0.0/8 link 0\n#\t10.0.0.0/8 link 8", strings.Repeat("\n", impl.MaxText), strings.Repeat(" ", impl.MaxText),
		strings.Repeat("#", impl.MaxText), strings.Repeat("\t\n", impl.MaxText/2), "#" + strings.Repeat("\xf0", impl.MaxText-1),
	} {
		checkReads(t, text)
	}
	checkShow(t, nil, "", impl.OK)
	checkShow(t, []impl.Route{}, "", impl.OK)
}

// A text may have MaxText bytes; of more nothing is read, neither an ill line nor too many routes.
func TestReadRoutesBoundsTheText(t *testing.T) {
	r := withMetric(routeTo(10<<24, 8), 1, 2)
	line := plainRoute(r)
	for _, filling := range []string{"#", " ", "\t", "\n"} {
		for _, n := range []int{impl.MaxText - 1, impl.MaxText, impl.MaxText + 1, impl.MaxText + 2, 2 * impl.MaxText, 1 << 20} {
			fill := strings.Repeat(filling, n-len(line))
			texts := []string{line + fill}
			if filling != "#" {
				texts = append(texts, fill+line, fill+line[:len(line)-1]+filling)
			}
			for _, text := range texts {
				if n <= impl.MaxText {
					checkReads(t, text, r)
				} else {
					checkRead(t, text, nil, impl.ErrSize, 0)
				}
			}
		}
	}
	for _, piece := range []string{"x", "x\n", "\x00", "10.0.0.0/8 link 8\n", line, line + "x\n"} {
		times := impl.MaxText/len(piece) + 1
		checkRead(t, strings.Repeat(piece, times)[:impl.MaxText+1], nil, impl.ErrSize, 0)
		checkReadAsModel(t, strings.Repeat(piece, times)[:impl.MaxText])
	}
}

// The last line may lack its newline; an empty line behind it is none.
func TestLastLines(t *testing.T) {
	a, b := routeTo(10<<24, 8), withMetric(routeTo(11<<24, 8), 1, 2)
	first, second := strings.TrimSuffix(plainRoute(a), "\n"), strings.TrimSuffix(plainRoute(b), "\n")
	for _, end := range []string{"", "\n", "\n\n", " ", "\t\n", "#", "#\n", " # x", " # x\n \n#"} {
		checkReads(t, first+end, a)
		checkReads(t, first+"\n"+second+end, a, b)
		checkReads(t, "\n\n"+first+"\n\n"+second+end, a, b)
		checkRead(t, first+"\n"+second+" x"+end, nil, impl.ErrSyntax, 2)
	}
	checkRead(t, first+" "+second, nil, impl.ErrSyntax, 1)
	checkRead(t, first+second, nil, impl.ErrSyntax, 1)
}

func TestBlanksBetweenWords(t *testing.T) {
	r := impl.Route{Prefix: impl.Prefix{Addr: 10 << 24, Bits: 8}, Via: gateway, Link: 3, Metric: 40}
	words := strings.Fields(plainRoute(r))
	blanks := []string{" ", "\t", "  ", "\t\t", " \t", "\t ", "   \t\t\t   ", strings.Repeat(" ", 1000), strings.Repeat("\t", 1000)}
	for _, blank := range blanks {
		line := strings.Join(words, blank)
		for _, around := range append(blanks, "") {
			checkReads(t, around+line, r)
			checkReads(t, line+around, r)
			checkReads(t, around+line+around+"\n", r)
			checkReads(t, line+around+"# "+line, r)
			checkReads(t, line+around+"#"+line+around+"#\n", r)
		}
	}
	// Without a blank between them two words are one, which is another.
	for i := 1; i < len(words); i++ {
		line := strings.Join(words[:i], " ") + strings.Join(words[i:], " ")
		checkRead(t, line, nil, impl.ErrSyntax, 1)
	}
}

// Only spaces and tabs part words, and only a newline ends a line; other white space belongs to a word.
func TestOtherWhiteSpaceIsNone(t *testing.T) {
	words := []string{"10.0.0.0/8", "via", "10.0.0.7", "link", "1", "metric", "2"}
	r, _, _ := impl.ReadRoutes(strings.Join(words, " "))
	for _, white := range []string{"\r", "\v", "\f", "\x00", "\x1c", "\x85", "\xa0", "\u0085", "\u00a0", "\u1680", "\u2003", "\u2028", "\u2029", "\u202f", "\u3000", "\ufeff", "\u200b"} {
		checkRead(t, white, nil, impl.ErrSyntax, 1)
		checkRead(t, " \n \t"+white+" \n", nil, impl.ErrSyntax, 2)
		for i := range len(words) {
			joined := strings.Join(words[:i], " ") + white + strings.Join(words[i:], " ")
			checkRead(t, joined, nil, impl.ErrSyntax, 1)
			checkRead(t, strings.Join(words[:i], " ")+" "+white+" "+strings.Join(words[i:], " "), nil, impl.ErrSyntax, 1)
		}
		checkRead(t, strings.Join(words, " ")+white, nil, impl.ErrSyntax, 1)
		checkRead(t, strings.Join(words, " ")+white+"\n"+strings.Join(words, " "), nil, impl.ErrSyntax, 1)
		checkRead(t, strings.Join(words, " ")+" "+white+"\n", nil, impl.ErrSyntax, 1)
		checkReads(t, strings.Join(words, " ")+"#"+white+"\n#"+white, r...)
	}
}

// A remark may touch a word, but what is ahead of it must be a whole line.
func TestRemarks(t *testing.T) {
	r := impl.Route{Prefix: impl.Prefix{Addr: 10 << 24, Bits: 8}, Via: gateway, Link: 1, Metric: 23}
	line := strings.TrimSuffix(plainRoute(r), "\n")
	for _, remark := range []string{"#", "#x", "# x", "##", "#\t#", "#metric 7", "#4", "# \xff\x00", "#\r"} {
		checkReads(t, line+remark, r)
		checkReads(t, line+remark+"\n"+line+" "+remark, r, r)
		checkReads(t, remark+"\n"+line, r)
		for i := range len(line) {
			checkReadAsModel(t, line[:i]+remark+line[i:])
			checkReadAsModel(t, "\n"+line[:i]+remark+"\n"+line)
		}
	}
	short := withMetric(r, 1, 0)
	checkReads(t, "10.0.0.0/8 via "+plainAddr(gateway)+" link 1#metric 23", short)
	checkReads(t, "10.0.0.0/8 via "+plainAddr(gateway)+" link 1# 2 metric 23", short)
	checkReads(t, "10.0.0.0/8 via "+plainAddr(gateway)+" link 1 metric 2#3", withMetric(r, 1, 2))
	checkRead(t, "10.0.0.0/8 via "+plainAddr(gateway)+" #link 1", nil, impl.ErrSyntax, 1)
	checkRead(t, "10.0.0.0/8# link 1", nil, impl.ErrSyntax, 1)
	checkRead(t, "10.0.0.0/8 link #1\n", nil, impl.ErrSyntax, 1)
	checkRead(t, "10.0.0.0/8 link 1 metric#1", nil, impl.ErrSyntax, 1)
}

// illLines are each not a route, for one reason at least; none of them is of no words.
func illLines() []string {
	list := []string{
		"x", "link", "via", "metric", "link 1", "via 10.0.0.1 link 1", "10.0.0.0/8", "10.0.0.0/8 link", "10.0.0.0/8 1", "10.0.0.0/8 7 link",
		"10.0.0.0/8 via 10.0.0.1", "10.0.0.0/8 via link 1", "10.0.0.0/8 via 10.0.0.1 1", "10.0.0.0/8 via 10.0.0.1 link", "10.0.0.0/8 via", "10.0.0.0/8 10.0.0.1 link 1",
		"10.0.0.0/8 metric 1", "10.0.0.0/8 via 10.0.0.1 metric 1", "10.0.0.0/8 link metric 1", "10.0.0.0/8 link 1 metric", "10.0.0.0/8 link 1 1", "10.0.0.0/8 metric",
		"10.0.0.0/8 link 1 via 10.0.0.1", "10.0.0.0/8 metric 1 link 1", "link 1 10.0.0.0/8", "10.0.0.0/8 link 1 metric 2 via 10.0.0.1",
		"10.0.0.0/8 via 10.0.0.1 metric 2 link 1", "via 10.0.0.1 10.0.0.0/8 link 1", "10.0.0.0/8 metric 1 via 10.0.0.1 link 1", "1 link 10.0.0.0/8",
		"10.0.0.0/8 10.0.0.0/8 link 1", "10.0.0.0/8 link 1 link 1", "10.0.0.0/8 link link 1", "10.0.0.0/8 via 10.0.0.1 via 10.0.0.1 link 1", "10.0.0.0/8 via via 10.0.0.1 link 1",
		"10.0.0.0/8 link 1 metric 1 metric 1", "10.0.0.0/8 link 1 metric metric 1", "10.0.0.0/8 link 1 metric 1 link 1", "10.0.0.0/8 link 1 x", "10.0.0.0/8 link 1 metric 1 x", "10.0.0.0/8 link 1 metric 1 1",
		"10.0.0.0/8 x link 1", "x 10.0.0.0/8 link 1", "10.0.0.0/8 link x 1", "10.0.0.0/8 link 1 x metric 1", "10.0.0.0/8 via 10.0.0.1 x link 1", "10.0.0.0/8 link 1 10.0.0.0/8 link 1",
		"10.0.0.0/8 LINK 1", "10.0.0.0/8 Link 1", "10.0.0.0/8 VIA 10.0.0.1 link 1", "10.0.0.0/8 Via 10.0.0.1 link 1", "10.0.0.0/8 link 1 METRIC 1", "10.0.0.0/8 link 1 Metric 1", "10.0.0.0/8 lin\u212a 1",
		"10.0.0.0/8 linkx 1", "10.0.0.0/8 lin 1", "10.0.0.0/8 link1", "10.0.0.0/8link 1", "10.0.0.0/8 link=1", "10.0.0.0/8 link:1", "10.0.0.0/8 link 1;", "10.0.0.0/8, link 1", "\"10.0.0.0/8\" link 1",
		"10.0.0.0 link 1", "10.0.0.0/ link 1", "10.0.0.0 /8 link 1", "10.0.0.0/ 8 link 1", "/8 link 1", "10.0.0/8 link 1", "10.0.0.0.0/8 link 1", "10.0.0.1/8 link 1", "10.0.0.0/33 link 1",
		"10.0.0.0/08 link 1", "010.0.0.0/8 link 1", "256.0.0.0/8 link 1", "0.0.0.0/00 link 1", "0.0.0.0/-1 link 1", "128.0.0.0/0 link 1", "255.255.255.255/31 link 1", "any link 1", "default link 1",
		"10.0.0.0/8 via 10.0.0 link 1", "10.0.0.0/8 via 10.0.0.256 link 1", "10.0.0.0/8 via 10.0.0.01 link 1", "10.0.0.0/8 via 10.0.0.0/8 link 1", "10.0.0.0/8 via 10.0.0.1/32 link 1",
		"10.0.0.0/8 via 0 link 1", "10.0.0.0/8 via x link 1", "10.0.0.0/8 via -1 link 1", "10.0.0.0/8 via 10.0.0.1, link 1", "; 10.0.0.0/8 link 1", "// 10.0.0.0/8 link 1", "\x00", "\xff\xfe",
	}
	for _, via := range []string{"0.0.0.0", "127.0.0.0", "127.0.0.1", "127.255.255.255", "224.0.0.0", "224.0.0.1", "239.255.255.255", "240.0.0.0", "255.255.255.254", "255.255.255.255"} {
		list = append(list, "10.0.0.0/8 via "+via+" link 1", "10.0.0.0/8 via "+via+" link 1 metric 5")
	}
	for _, number := range illDecimals() {
		list = append(list, "10.0.0.0/8 link "+number, "10.0.0.0/8 link "+number+" metric 1", "10.0.0.0/8 link 1 metric "+number,
			"10.0.0.0/8 via 10.0.0.1 link "+number, "10.0.0.0/8 via 10.0.0.1 link 1 metric "+number)
	}
	for _, link := range []string{"8", "9", "10", "17", "70", "256", "65536"} {
		list = append(list, "10.0.0.0/8 link "+link, "0.0.0.0/0 via 10.0.0.1 link "+link+" metric 1000000")
	}
	for _, metric := range []string{"1000001", "1000002", "2000000", "9999999", "10000000", "4294967296"} {
		list = append(list, "10.0.0.0/8 link 1 metric "+metric, "0.0.0.0/0 via 10.0.0.1 link 7 metric "+metric)
	}
	return list
}

// illDecimals are no numbers, or greater than any that a route may have.
func illDecimals() []string {
	return []string{
		"00", "01", "007", "0000000001", "00000000000000000000001", "-1", "-0", "+1", "+0", "--1", "x", "1x", "x1", "1_0", "0x1", "1e0", "1.0", "1.", ".1", "1,0", "'1'",
		"2147483648", "4294967297", "9223372036854775807", "9223372036854775808", "18446744073709551615", "18446744073709551616", "18446744073709551617",
		"99999999999999999999999", "340282366920938463463374607431768211457", strings.Repeat("1", 5000), strings.Repeat("0", 5000), "\u0661", "\uff11", "1\x00", "one", "/", ":",
	}
}

func TestIllLines(t *testing.T) {
	good := routeTo(11<<24, 8)
	for _, line := range illLines() {
		checkRead(t, line, nil, impl.ErrSyntax, 1)
		checkRead(t, line+"\n", nil, impl.ErrSyntax, 1)
		checkRead(t, " \t"+line+"\t # x\n", nil, impl.ErrSyntax, 1)
		checkRead(t, plainRoute(good)+line+"\n"+plainRoute(good), nil, impl.ErrSyntax, 2)
		checkRead(t, plainRoute(good)+"\n# "+line+"\n\t\n"+plainRoute(good)+line, nil, impl.ErrSyntax, 6)
		checkReads(t, "#"+line+"\n"+plainRoute(good), good)
	}
}

func TestReadRoutesTakesTheEdges(t *testing.T) {
	for _, r := range edgeRoutes() {
		line := plainRoute(r)
		checkReads(t, line, r)
		if r.Metric == 0 {
			checkReads(t, strings.TrimSuffix(line, "\n")+" metric 0\n", r)
		}
	}
}

// The first line at fault counts, with its number among all lines, those without words too.
func TestTheFirstErrorIsTold(t *testing.T) {
	good := plainRoute(routeTo(10<<24, 8))
	for _, nothing := range []string{"", "\n", "# x\n", "\n\n \t\n#\n", strings.Repeat("\n", 1000), strings.Repeat("#\n\t\n", 100)} {
		skipped := int64(strings.Count(nothing, "\n"))
		checkRead(t, nothing+"x", nil, impl.ErrSyntax, skipped+1)
		checkRead(t, nothing+"x\n"+nothing+"y\n", nil, impl.ErrSyntax, skipped+1)
		checkRead(t, nothing+good+nothing+"x\n"+nothing+good+"y", nil, impl.ErrSyntax, 2*skipped+2)
		checkRead(t, good+nothing+good+nothing+"x\n"+nothing, nil, impl.ErrSyntax, 2*skipped+3)
		checkRead(t, nothing+good+nothing+good+nothing+"\tx", nil, impl.ErrSyntax, 3*skipped+3)
	}
}

// Routes are counted, not lines; the line behind MaxRoutes of them is told by what it is itself.
func TestReadRoutesBoundsTheRoutes(t *testing.T) {
	r := withMetric(routeTo(10<<24, 8), 3, 0)
	full := slices.Repeat([]impl.Route{r}, impl.MaxRoutes)
	line := plainRoute(r)
	text := strings.Repeat(line, impl.MaxRoutes)
	checkReads(t, text[len(line):], full[1:]...)
	checkReads(t, text, full...)
	checkReads(t, strings.TrimSuffix(text, "\n"), full...)
	checkReads(t, text+"\n# "+line+" \t\n"+"#", full...)
	checkReads(t, strings.Repeat("\n# x\n"+line, impl.MaxRoutes), full...)
	checkRead(t, text+line, nil, impl.ErrCount, 65)
	checkRead(t, text+"\n#\n"+line+line, nil, impl.ErrCount, 67)
	checkRead(t, text+"x", nil, impl.ErrSyntax, 65)
	checkRead(t, text+"# y\n x\n", nil, impl.ErrSyntax, 66)
	checkRead(t, text+line+"x\n", nil, impl.ErrCount, 65)
	checkRead(t, text+"x\n"+line, nil, impl.ErrSyntax, 65)
	checkRead(t, text+line+line+line, nil, impl.ErrCount, 65)
	checkRead(t, text+"10.0.0.0/8 link 8\n"+line, nil, impl.ErrSyntax, 65)
	checkRead(t, "x\n"+text+line, nil, impl.ErrSyntax, 1)
	checkRead(t, line+"x\n"+text+line, nil, impl.ErrSyntax, 2)
	checkRead(t, strings.Repeat(line, impl.MaxRoutes-1)+"x\n"+line+line, nil, impl.ErrSyntax, 64)
	checkRead(t, strings.Repeat(line, 500), nil, impl.ErrCount, 65)
}

func TestShownRoutes(t *testing.T) {
	for _, c := range []struct {
		r    impl.Route
		want string
	}{
		{impl.Route{}, "0.0.0.0/0 link 0\n"},
		{impl.Route{Link: 7}, "0.0.0.0/0 link 7\n"},
		{impl.Route{Metric: 1}, "0.0.0.0/0 link 0 metric 1\n"},
		{impl.Route{Via: 1}, "0.0.0.0/0 via 0.0.0.1 link 0\n"},
		{impl.Route{Prefix: impl.Prefix{Addr: lastAddr, Bits: 32}, Via: 224<<24 - 1, Link: 7, Metric: 1000000}, "255.255.255.255/32 via 223.255.255.255 link 7 metric 1000000\n"},
		{impl.Route{Prefix: impl.Prefix{Addr: 0x0A010200, Bits: 24}, Link: 2, Metric: 100}, "10.1.2.0/24 link 2 metric 100\n"},
	} {
		checkShow(t, []impl.Route{c.r}, c.want, impl.OK)
		checkShow(t, []impl.Route{c.r, {}, c.r}, c.want+"0.0.0.0/0 link 0\n"+c.want, impl.OK)
	}
	for _, r := range edgeRoutes() {
		checkShow(t, []impl.Route{r}, plainRoute(r), impl.OK)
	}
}

// Too long a list is told ahead of a route that is not valid, wherever that stands.
func TestShowRoutesRefuses(t *testing.T) {
	for _, ill := range illRoutes() {
		checkShow(t, []impl.Route{ill}, "", impl.ErrForm)
		checkShow(t, []impl.Route{{}, ill}, "", impl.ErrForm)
		checkShow(t, []impl.Route{ill, {}}, "", impl.ErrForm)
	}
	ill := impl.Route{Link: 8}
	for _, n := range []int{impl.MaxRoutes - 1, impl.MaxRoutes, impl.MaxRoutes + 1, 2 * impl.MaxRoutes, 100000} {
		list := make([]impl.Route, n)
		text, right, wrong := plainRoutes(list), int64(impl.OK), int64(impl.ErrForm)
		if n > impl.MaxRoutes {
			text, right, wrong = "", impl.ErrCount, impl.ErrCount
		}
		checkShow(t, list, text, right)
		for _, place := range []int{0, n / 2, n - 1} {
			list[place] = ill
			checkShow(t, list, "", wrong)
			list[place] = impl.Route{}
		}
		checkShow(t, slices.Repeat([]impl.Route{ill}, n), "", wrong)
	}
}

// P15: lists of valid routes come back from their texts, and an ill line behind them is told by its number.
func TestRoutesComeBack(t *testing.T) {
	chance := newChance()
	ill := illLines()
	longest := impl.Route{Prefix: impl.Prefix{Addr: lastAddr, Bits: 32}, Via: 224<<24 - 1, Link: 7, Metric: mostMetric}
	lists := [][]impl.Route{nil, {}, {{}}, slices.Repeat([]impl.Route{longest}, impl.MaxRoutes)}
	for n := range impl.MaxRoutes + 1 {
		for range 5 {
			lists = append(lists, randomRoutes(chance, n))
		}
	}
	for part := range slices.Chunk(edgeRoutes(), impl.MaxRoutes) {
		lists = append(lists, part)
	}
	for _, list := range lists {
		text, code := impl.ShowRoutes(list)
		if code != impl.OK || text != plainRoutes(list) {
			t.Fatalf("ShowRoutes(%v): %q, %d", list, text, code)
		}
		checkReads(t, text, list...)
		behind := int64(len(list) + 1)
		for range 10 {
			line := ill[chance.Intn(len(ill))]
			checkRead(t, text+line, nil, impl.ErrSyntax, behind)
			checkRead(t, text+"\n#\n"+line+"\n"+plainRoute(longest), nil, impl.ErrSyntax, behind+2)
		}
	}
}

// What is read shows as a text that is read as the same.
func TestLinesNearARoute(t *testing.T) {
	for _, line := range []string{"0.0.0.0/0 link 0", "10.0.0.0/8 via 10.0.0.1 link 7 metric 1000000"} {
		for _, near := range oneByteOff(line) {
			checkReadAsModel(t, near)
			list, code, _ := impl.ReadRoutes(near)
			if code == impl.OK {
				text, code := impl.ShowRoutes(list)
				if code != impl.OK {
					t.Fatalf("ShowRoutes of what %q tells: %d", near, code)
				}
				checkReads(t, text, list...)
			}
		}
	}
}

// randomText is made of what texts of routes are made of; most lines of some are routes.
func randomText(chance *rand.Rand) string {
	pieces := []string{
		"10.0.0.0/8", "0.0.0.0/0", "1.2.3.4/32", "1.2.3.4/31", "via", "10.0.0.1", "0.0.0.0", "224.0.0.1", "link", "metric", "0", "1", "7", "8", "01", "1000000", "1000001",
		" ", " ", "\t", "\n", "\n", "#", "\r", "\x00", "\u00a0", "Link", "\xff",
	}
	order := []int{0, 4, 5, 8, 11, 9, 15}
	var text strings.Builder
	for range chance.Intn(90) {
		switch chance.Intn(40) {
		case 0:
			for range chance.Intn(8) {
				text.WriteString(pieces[chance.Intn(len(pieces))])
			}
		case 1:
			for _, i := range order {
				if chance.Intn(10) > 0 {
					text.WriteString(pieces[i] + " ")
				}
			}
			text.WriteString("\n")
		case 2, 3:
			text.WriteString([]string{"\n", " \t\n", "# x\n", "#"}[chance.Intn(4)])
		default:
			text.WriteString(plainRoute(randomRoute(chance)))
		}
	}
	return text.String()
}

// P51: whatever it is given a call ends, and answers the same again.
func TestRoutesAnswerTheSameAgain(t *testing.T) {
	chance := newChance()
	told := map[int64]int{}
	for range 6000 {
		text := randomText(chance)
		_, code, _ := impl.ReadRoutes(text)
		told[code]++
		checkReadAsModel(t, text)
		checkReadAsModel(t, strings.Clone(text))
	}
	for _, code := range []int64{impl.OK, impl.ErrSyntax, impl.ErrCount} {
		if told[code] < 50 {
			t.Errorf("code %d comes %d times", code, told[code])
		}
	}
	for range 300 {
		checkReadAsModel(t, string(randomBytes(chance, chance.Intn(300))))
	}
	checkReadAsModel(t, string(randomBytes(chance, impl.MaxText)))
	numbers := append(edgeNumbers(), 1, 7, 8, 24, 32, 33, mostMetric, mostMetric+1, ownAddr)
	pick := func() int64 { return numbers[chance.Intn(len(numbers))] }
	for range 3000 {
		list := withIllOnes(chance, randomRoutes(chance, chance.Intn(4)))
		for range chance.Intn(4) {
			list = append(list, impl.Route{Prefix: impl.Prefix{Addr: pick(), Bits: pick()}, Via: pick(), Link: pick(), Metric: pick()})
		}
		dst := pick()
		checkAsModel(t, list, dst)
		checkAsModel(t, slices.Clone(list), dst)
		text, code := impl.ShowRoutes(list)
		checkShow(t, slices.Clone(list), text, code)
	}
}

// P51: a list stays as it is, the room behind it too, and an answer is not its memory.
func TestRoutesLeaveTheirList(t *testing.T) {
	chance := newChance()
	for _, n := range []int{0, 1, 5, impl.MaxRoutes, impl.MaxRoutes + 1} {
		room := randomRoutes(chance, n+20)
		kept := slices.Clone(room)
		list := room[10 : 10+n]
		for _, dst := range placesOf(list) {
			impl.FindRoute(list, dst)
		}
		text, code := impl.ShowRoutes(list)
		if !slices.Equal(room, kept) {
			t.Fatalf("a list of %d routes is changed", n)
		}
		told := strings.Clone(text)
		clear(room)
		if text != told || n <= impl.MaxRoutes && text != plainRoutes(kept[10:10+n]) || (code == impl.OK) != (n <= impl.MaxRoutes) {
			t.Errorf("the text of %d routes: %q, %d", n, text, code)
		}
	}
}

// P51: two readings of one text share nothing, nor what stands behind their lists.
func TestReadRoutesAnswersNewMemory(t *testing.T) {
	chance := newChance()
	for _, n := range []int{0, 1, 5, impl.MaxRoutes} {
		list := randomRoutes(chance, n)
		text := plainRoutes(list)
		first, _, _ := impl.ReadRoutes(text)
		second, _, _ := impl.ReadRoutes(text)
		spoil(second, impl.Route{Link: 99})
		if !slices.Equal(first, list) || text != plainRoutes(list) {
			t.Errorf("a list of %d routes shares memory", n)
		}
		checkReads(t, text, list...)
	}
}
