package tests

import (
	"math/rand"
	"slices"
	"strings"
	"testing"

	"loop.example/g00300/impl"
)

// wantHealthGood tells the health.
func wantHealthGood(t *testing.T, h impl.Health) impl.Health {
	t.Helper()
	if !impl.GoodHealth(h) {
		t.Errorf("GoodHealth(%v) = false", h)
	}
	return h
}

// wantHealthBad also asks whoever is given health.
func wantHealthBad(t *testing.T, h impl.Health) {
	t.Helper()
	if impl.GoodHealth(h) {
		t.Errorf("GoodHealth(%v) = true", h)
	}
	for _, host := range []int{-1, 0, 1, len(h.Hosts) - 1, len(h.Hosts)} {
		wantNotTakenBy(t, h, host)
		wantNoRow(t, h, host)
	}
	if names, ok := impl.UpIn(h); len(names) != 0 || ok {
		t.Errorf("UpIn(%v) = %q, %v", h, names, ok)
	}
	wantNotKnownAs(t, h, "")
	for _, host := range h.Hosts {
		wantNotKnownAs(t, h, host.Name)
	}
}

func wantNewIs(t *testing.T, rise, fall int, names []string, hosts ...impl.Host) {
	t.Helper()
	if got, ok := impl.NewHealth(rise, fall, names); !alikeHealth(got, healthOf(rise, fall, hosts...)) || !ok {
		t.Errorf("NewHealth(%d, %d, %q) = %v, %v; want %v", rise, fall, names, got, ok, hosts)
	}
}

// wantNoHealth also asks for what comes of probes.
func wantNoHealth(t *testing.T, rise, fall int, names ...string) {
	t.Helper()
	if got, ok := impl.NewHealth(rise, fall, names); !alikeHealth(got, impl.Health{}) || ok {
		t.Errorf("NewHealth(%d, %d, %q) = %v, %v", rise, fall, names, got, ok)
	}
	for _, l := range [][]impl.Probe{nil, {{}}, {{Fine: true}}, {{Host: 1}}} {
		wantNotPlayed(t, rise, fall, names, l)
	}
	var hosts []impl.Host
	for _, name := range names {
		hosts = append(hosts, upAt(name, 0))
	}
	wantHealthBad(t, healthOf(rise, fall, hosts...))
}

// wantTakes: the host with a number becomes so by the probe, all others stay as they are.
func wantTakes(t *testing.T, h impl.Health, host int, fine bool, changed bool, then impl.Host) impl.Health {
	t.Helper()
	want := healthOf(h.Rise, h.Fall, h.Hosts...)
	want.Hosts[host] = then
	got, turned, ok := impl.TakeProbe(h, impl.Probe{Host: host, Fine: fine})
	if !alikeHealth(got, want) || turned != changed || !ok {
		t.Errorf("TakeProbe(%v, %d %v) = %v, %v, %v; want %v, %v", h, host, fine, got, turned, ok, want, changed)
	}
	return got
}

func wantNotTakenBy(t *testing.T, h impl.Health, hosts ...int) {
	t.Helper()
	for _, host := range hosts {
		for _, fine := range []bool{false, true} {
			if got, changed, ok := impl.TakeProbe(h, impl.Probe{Host: host, Fine: fine}); !alikeHealth(got, impl.Health{}) || changed || ok {
				t.Errorf("TakeProbe(%v, %d %v) = %v, %v, %v", h, host, fine, got, changed, ok)
			}
		}
	}
}

func wantPlayed(t *testing.T, rise, fall int, names []string, l []impl.Probe, changes int, hosts ...impl.Host) {
	t.Helper()
	if got, many, ok := impl.PlayProbes(rise, fall, names, l); !alikeHealth(got, healthOf(rise, fall, hosts...)) || many != changes || !ok {
		t.Errorf("PlayProbes(%d, %d, %q, %v) = %v, %d, %v; want %v, %d", rise, fall, names, l, got, many, ok, hosts, changes)
	}
}

func wantNotPlayed(t *testing.T, rise, fall int, names []string, l []impl.Probe) {
	t.Helper()
	if got, many, ok := impl.PlayProbes(rise, fall, names, l); !alikeHealth(got, impl.Health{}) || many != 0 || ok {
		t.Errorf("PlayProbes(%d, %d, %q, %v) = %v, %d, %v", rise, fall, names, l, got, many, ok)
	}
}

func wantUp(t *testing.T, h impl.Health, names ...string) {
	t.Helper()
	if got, ok := impl.UpIn(h); !slices.Equal(got, names) || !ok {
		t.Errorf("UpIn(%v) = %q, %v; want %q", h, got, ok, names)
	}
}

func wantKnownAs(t *testing.T, h impl.Health, name string, up bool) {
	t.Helper()
	if got, ok := impl.IsUp(h, name); got != up || !ok {
		t.Errorf("IsUp(%v, %q) = %v, %v; want %v", h, name, got, ok, up)
	}
}

func wantNotKnownAs(t *testing.T, h impl.Health, names ...string) {
	t.Helper()
	for _, name := range names {
		if up, ok := impl.IsUp(h, name); up || ok {
			t.Errorf("IsUp(%v, %q) = %v, %v", h, name, up, ok)
		}
	}
}

func wantRowIs(t *testing.T, h impl.Health, host, row int) {
	t.Helper()
	if got, ok := impl.RowOf(h, host); got != row || !ok {
		t.Errorf("RowOf(%v, %d) = %d, %v; want %d", h, host, got, ok, row)
	}
}

func wantNoRow(t *testing.T, h impl.Health, hosts ...int) {
	t.Helper()
	for _, host := range hosts {
		if got, ok := impl.RowOf(h, host); got != 0 || ok {
			t.Errorf("RowOf(%v, %d) = %d, %v", h, host, got, ok)
		}
	}
}

func TestHealthConstants(t *testing.T) {
	if impl.MaxHosts != mostHosts || impl.MaxProbes != mostProbes {
		t.Error(impl.MaxHosts, impl.MaxProbes)
	}
}

func TestNewHealth(t *testing.T) {
	wantNewIs(t, 2, 3, []string{"a", "b"}, upAt("a", 0), upAt("b", 0))
	// As they stand: neither in the order of names nor of texts.
	wantNewIs(t, 1, 10, []string{"z.a", "b", "a.b", "a"}, upAt("z.a", 0), upAt("b", 0), upAt("a.b", 0), upAt("a", 0))
	for many := 1; many <= mostHosts; many++ {
		var hosts []impl.Host
		for _, name := range hostNames(many) {
			hosts = append(hosts, upAt(name, 0))
		}
		wantNewIs(t, 3, 2, hostNames(many), hosts...)
		wantHealthGood(t, healthOf(3, 2, hosts...))
	}
}

func TestHowManyHosts(t *testing.T) {
	wantNoHealth(t, 2, 2)
	wantNewIs(t, 2, 2, []string{"a"}, upAt("a", 0))
	if h, ok := impl.NewHealth(2, 2, hostNames(12)); !ok || len(h.Hosts) != 12 {
		t.Error(h, ok)
	}
	wantNoHealth(t, 2, 2, hostNames(13)...)
	wantNoHealth(t, 2, 2, hostNames(500)...)
	// More than there may be, though there are few names.
	wantNoHealth(t, 2, 2, slices.Repeat([]string{"a"}, 13)...)
}

func TestNamesOfHosts(t *testing.T) {
	for _, name := range goodNames() {
		if name == "" {
			continue
		}
		wantNewIs(t, 2, 2, []string{name}, upAt(name, 0))
		wantHealthGood(t, healthOf(2, 2, downAt(name, 1)))
	}
	bad := append(badNames(), "")
	for i, name := range bad {
		wantNoHealth(t, 2, 2, name)
		wantHealthBad(t, healthOf(2, 2, downAt(name, 0)))
		// One bad name is enough, wherever it stands.
		if len(name) < 100 {
			names := hostNames(4)
			names[i%4] = name
			wantNoHealth(t, 2, 2, names...)
		}
	}
	for at := range mostHosts {
		for _, name := range []string{"", "A", "a..b"} {
			names := hostNames(12)
			names[at] = name
			wantNoHealth(t, 2, 2, names...)
		}
	}
}

func TestNoTwoHostsAreAlike(t *testing.T) {
	for a := range mostHosts {
		for b := range mostHosts {
			names := hostNames(12)
			names[a] = names[b]
			if a != b {
				wantNoHealth(t, 2, 2, names...)
			}
		}
	}
	// They are alike by their names, whatever else is told of them.
	wantHealthBad(t, healthOf(3, 3, upAt("a", 0), downAt("a", 0)))
	wantHealthBad(t, healthOf(3, 3, downAt("a", 1), upAt("b", 0), downAt("a", 2)))
	// A name that ends with another one, or begins with it, is another one.
	wantHealthGood(t, healthOf(3, 3, upAt("a", 0), upAt("a.a", 0), upAt("aa", 0), upAt("b.a", 0), upAt("*", 0), upAt("*.a", 0)))
}

func TestRiseAndFall(t *testing.T) {
	names := []string{"a", "b"}
	for _, rise := range []int{1, 2, 9, 10} {
		for _, fall := range []int{1, 2, 9, 10} {
			wantNewIs(t, rise, fall, names, upAt("a", 0), upAt("b", 0))
			wantHealthGood(t, healthOf(rise, fall, downAt("a", 0), upAt("b", 0)))
		}
	}
	for _, bad := range append(wildInts(), 0, 11, 12, 100) {
		for _, other := range []int{1, 2, 10} {
			wantNoHealth(t, bad, other, names...)
			wantNoHealth(t, other, bad, names...)
		}
		wantNoHealth(t, bad, bad, names...)
		// Though no host is told the way for which it would count.
		wantHealthBad(t, healthOf(bad, 5, upAt("a", 0)))
		wantHealthBad(t, healthOf(5, bad, downAt("a", 0)))
	}
}

func TestHowLongARowMayBe(t *testing.T) {
	for _, two := range [][2]int{{1, 1}, {1, 4}, {4, 1}, {3, 7}, {7, 3}, {9, 10}, {10, 9}, {1, 10}, {10, 1}, {10, 10}} {
		rise, fall := two[0], two[1]
		for row := -2; row <= 12; row++ {
			for _, host := range []impl.Host{upAt("b", row), downAt("b", row)} {
				h := healthOf(rise, fall, upAt("a", 0), host, downAt("c", 0))
				most := rise
				if host.Up {
					most = fall
				}
				if row >= 0 && row < most {
					wantRowIs(t, wantHealthGood(t, h), 1, row)
				} else {
					wantHealthBad(t, h)
				}
			}
		}
		for _, wild := range wildInts() {
			wantHealthBad(t, healthOf(rise, fall, upAt("a", wild)))
			wantHealthBad(t, healthOf(rise, fall, downAt("a", wild)))
			wantHealthBad(t, healthOf(rise, fall, upAt("a", 0), downAt("b", wild)))
		}
	}
	// Each host has its own: the last one of twelve alone is not as said.
	var hosts []impl.Host
	for _, name := range hostNames(12) {
		hosts = append(hosts, downAt(name, 4))
	}
	wantHealthGood(t, healthOf(5, 3, hosts...))
	hosts[11].Up = true
	wantHealthBad(t, healthOf(5, 3, hosts...))
	hosts[11].Row = 2
	wantHealthGood(t, healthOf(5, 3, hosts...))
}

func TestBadHealth(t *testing.T) {
	wantHealthBad(t, impl.Health{})
	wantHealthBad(t, healthOf(2, 2))
	wantHealthBad(t, healthOf(2, 2, impl.Host{}))
	wantHealthBad(t, healthOf(0, 2, upAt("a", 0)))
	wantHealthBad(t, healthOf(2, 0, upAt("a", 0)))
	wantHealthBad(t, impl.Health{Rise: 2, Fall: 2, Hosts: make([]impl.Host, 13)})
}

func TestTheNumberOfAHost(t *testing.T) {
	h := healthOf(3, 3, upAt("a", 1), downAt("b", 1), upAt("c", 2))
	wantTakes(t, h, 0, false, false, upAt("a", 2))
	wantTakes(t, h, 1, false, false, downAt("b", 0))
	wantTakes(t, h, 2, false, true, downAt("c", 0))
	wantNotTakenBy(t, h, append(wildInts(), -2, -1, 3, 4, 11, 12)...)
	one := healthOf(3, 3, upAt("a", 1))
	wantTakes(t, one, 0, true, false, upAt("a", 0))
	wantNotTakenBy(t, one, append(wildInts(), -1, 1, 2)...)
	var hosts []impl.Host
	for _, name := range hostNames(12) {
		hosts = append(hosts, upAt(name, 1))
	}
	for at, host := range hosts {
		wantTakes(t, healthOf(3, 3, hosts...), at, true, false, upAt(host.Name, 0))
		wantTakes(t, healthOf(3, 3, hosts...), at, false, false, upAt(host.Name, 2))
		wantTakes(t, healthOf(3, 2, hosts...), at, false, true, downAt(host.Name, 0))
	}
	wantNotTakenBy(t, healthOf(3, 3, hosts...), append(wildInts(), -1, 12, 13)...)
}

// A probe that agrees ends the row, however long that is.
func TestAProbeThatAgreesEndsTheRow(t *testing.T) {
	for _, two := range [][2]int{{1, 1}, {2, 5}, {5, 2}, {10, 10}} {
		for row := range two[1] {
			wantTakes(t, healthOf(two[0], two[1], downAt("b", 0), upAt("a", row)), 1, true, false, upAt("a", 0))
		}
		for row := range two[0] {
			wantTakes(t, healthOf(two[0], two[1], downAt("a", row), upAt("b", 0)), 0, false, false, downAt("a", 0))
		}
	}
}

// A probe that speaks against what is told makes the row longer, up to the change, behind which it is 0.
func TestTheProbeThatChanges(t *testing.T) {
	for _, two := range [][2]int{{1, 1}, {1, 2}, {2, 1}, {2, 5}, {5, 2}, {9, 10}, {10, 9}, {10, 10}} {
		rise, fall := two[0], two[1]
		others := []impl.Host{upAt("b", fall-1), downAt("c", rise-1), upAt("d", 0), downAt("e", 0)}
		for row := range fall - 1 {
			wantTakes(t, healthOf(rise, fall, append(others, upAt("a", row))...), 4, false, false, upAt("a", row+1))
		}
		wantTakes(t, healthOf(rise, fall, append(others, upAt("a", fall-1))...), 4, false, true, downAt("a", 0))
		for row := range rise - 1 {
			wantTakes(t, healthOf(rise, fall, append(others, downAt("a", row))...), 4, true, false, downAt("a", row+1))
		}
		wantTakes(t, healthOf(rise, fall, append(others, downAt("a", rise-1))...), 4, true, true, upAt("a", 0))
	}
}

// Where one probe is enough, both ways, what is told is always what the last one said.
func TestOneProbeIsEnough(t *testing.T) {
	h := healthOf(1, 1, upAt("a", 0), upAt("b", 0))
	h = wantTakes(t, h, 0, false, true, downAt("a", 0))
	h = wantTakes(t, h, 0, false, false, downAt("a", 0))
	h = wantTakes(t, h, 0, true, true, upAt("a", 0))
	h = wantTakes(t, h, 0, true, false, upAt("a", 0))
	wantTakes(t, h, 0, false, true, downAt("a", 0))
	// One is enough to fall, several to rise; and the other way round.
	h = healthOf(3, 1, upAt("a", 0))
	h = wantTakes(t, h, 0, false, true, downAt("a", 0))
	h = wantTakes(t, h, 0, true, false, downAt("a", 1))
	h = wantTakes(t, h, 0, true, false, downAt("a", 2))
	h = wantTakes(t, h, 0, true, true, upAt("a", 0))
	wantTakes(t, h, 0, false, true, downAt("a", 0))
	h = healthOf(1, 3, upAt("a", 2))
	h = wantTakes(t, h, 0, false, true, downAt("a", 0))
	h = wantTakes(t, h, 0, true, true, upAt("a", 0))
	wantTakes(t, h, 0, false, false, upAt("a", 1))
}

func TestPlayProbesByHand(t *testing.T) {
	names := []string{"a", "b"}
	wantPlayed(t, 2, 3, names, probesOf(0, "--+---+"), 1, downAt("a", 1), upAt("b", 0))
	wantPlayed(t, 2, 3, names, probesOf(0, "--+---++"), 2, upAt("a", 0), upAt("b", 0))
	wantPlayed(t, 2, 3, names, probesOf(1, "---"), 1, upAt("a", 0), downAt("b", 0))
	wantPlayed(t, 2, 3, names, probesOf(1, "--"), 0, upAt("a", 0), upAt("b", 2))
	// What goes beyond a change counts for nothing: it agrees.
	wantPlayed(t, 2, 3, names, probesOf(1, "------"), 1, upAt("a", 0), downAt("b", 0))
	wantPlayed(t, 2, 3, names, probesOf(1, "------++++--"), 2, upAt("a", 0), upAt("b", 2))
	// The rows of two hosts go on beside each other.
	wantPlayed(t, 2, 2, names, slices.Concat(probesOf(0, "-"), probesOf(1, "-"), probesOf(0, "-"), probesOf(1, "+")), 1, downAt("a", 0), upAt("b", 0))
	wantPlayed(t, 2, 2, names, slices.Concat(probesOf(0, "-"), probesOf(1, "++"), probesOf(0, "-"), probesOf(1, "--")), 2, downAt("a", 0), downAt("b", 0))
	// A row that a probe of another one would end, were it of this one.
	wantPlayed(t, 2, 3, names, slices.Concat(probesOf(0, "--"), probesOf(1, "+"), probesOf(0, "-")), 1, downAt("a", 0), upAt("b", 0))
}

func TestHowManyProbes(t *testing.T) {
	names := []string{"a", "b"}
	wantPlayed(t, 2, 3, names, nil, 0, upAt("a", 0), upAt("b", 0))
	wantPlayed(t, 2, 3, names, []impl.Probe{}, 0, upAt("a", 0), upAt("b", 0))
	wantPlayed(t, 1, 1, names, probesOf(0, strings.Repeat("-+", 100)), 200, upAt("a", 0), upAt("b", 0))
	wantPlayed(t, 1, 1, names, probesOf(0, strings.Repeat("+-", 99)+"-"), 197, downAt("a", 0), upAt("b", 0))
	wantPlayed(t, 10, 10, names, probesOf(1, strings.Repeat("-", 200)), 1, upAt("a", 0), downAt("b", 0))
	wantPlayed(t, 10, 10, names, probesOf(1, strings.Repeat(strings.Repeat("-", 10)+strings.Repeat("+", 10), 10)), 20, upAt("a", 0), upAt("b", 0))
	wantNotPlayed(t, 1, 1, names, probesOf(0, strings.Repeat("-", 201)))
	wantNotPlayed(t, 1, 1, names, probesOf(0, strings.Repeat("+", 201)))
	wantNotPlayed(t, 1, 1, names, make([]impl.Probe, 1<<12))
}

// One probe of a number that no host has, and nothing is told, wherever it stands.
func TestEachProbeIsOfAHost(t *testing.T) {
	names := []string{"a", "b", "c"}
	for _, number := range append(wildInts(), -2, 3, 4, 12) {
		for _, at := range []int{0, 1, 100, 198, 199} {
			l := slices.Concat(probesOf(0, strings.Repeat("-+", 50)), probesOf(2, strings.Repeat("+-", 50)))
			l[at].Host = number
			wantNotPlayed(t, 1, 1, names, l)
			wantNotPlayed(t, 10, 10, names, l)
		}
		wantNotPlayed(t, 1, 1, names, []impl.Probe{{Host: number}})
		wantNotPlayed(t, 1, 1, names, []impl.Probe{{Host: number, Fine: true}})
	}
	wantPlayed(t, 1, 1, names, []impl.Probe{{Host: 2}}, 1, upAt("a", 0), upAt("b", 0), downAt("c", 0))
	wantNotPlayed(t, 1, 1, names[:2], []impl.Probe{{Host: 2}})
}

// Promise 13: rows that end one short of the change never come to it, however many there are; one more probe in any of them does.
func TestRowsThatEndOneShort(t *testing.T) {
	names := []string{"a", "b"}
	for many := 2; many <= mostRow; many++ {
		against, fine := strings.Repeat("-", many-1), strings.Repeat("+", many-1)
		rows := mostProbes/many - 1
		wantPlayed(t, 1, many, names, probesOf(0, strings.Repeat(against+"+", rows)), 0, upAt("a", 0), upAt("b", 0))
		wantPlayed(t, 1, many, names, probesOf(0, strings.Repeat(against+"+", rows)+against), 0, upAt("a", many-1), upAt("b", 0))
		wantPlayed(t, 1, many, names, probesOf(0, strings.Repeat(against+"+", rows)+against+"-"), 1, downAt("a", 0), upAt("b", 0))
		wantPlayed(t, 1, many, names, probesOf(0, against+"-+"+against), 2, upAt("a", many-1), upAt("b", 0))
		wantPlayed(t, many, 1, names, probesOf(1, "-"+strings.Repeat(fine+"-", rows)), 1, upAt("a", 0), downAt("b", 0))
		wantPlayed(t, many, 1, names, probesOf(1, "-"+strings.Repeat(fine+"-", rows)+fine), 1, upAt("a", 0), downAt("b", many-1))
		wantPlayed(t, many, 1, names, probesOf(1, "-"+strings.Repeat(fine+"-", rows-1)+fine+"+"), 2, upAt("a", 0), upAt("b", 0))
	}
}

// Promise 13, told from what was seen alone: what is told of a host changes at a probe just where that and those ahead of it, behind the last change, are so many in a row that speak against it.
func TestWhatIsToldChangesJustBehindARow(t *testing.T) {
	r := rand.New(rand.NewSource(131))
	turned := map[bool]int{}
	for range 300 {
		h := randomHealth(r)
		rise, fall, names := h.Rise, h.Fall, namesOfHosts(h.Hosts)
		h, ok := impl.NewHealth(rise, fall, names)
		seen, all := make([]string, len(names)), 0
		l := randomProbes(r, len(names), mostProbes)
		for i, p := range l {
			up := h.Hosts[p.Host].Up
			seen[p.Host] += map[bool]string{true: "+", false: "-"}[p.Fine]
			row := strings.Repeat("+", rise)
			if up {
				row = strings.Repeat("-", fall)
			}
			turns := strings.HasSuffix(seen[p.Host], row)
			then, changed, good := impl.TakeProbe(h, p)
			if !ok || !good || changed != turns || then.Hosts[p.Host].Up != (up != turns) {
				t.Fatalf("TakeProbe(%v, %v) = %v, %v, %v behind %q", h, p, then, changed, good, seen[p.Host])
			}
			if turns {
				turned[up]++
				all++
				seen[p.Host] = ""
			}
			h = then
			if i%40 == 39 {
				wantPlayed(t, rise, fall, names, l[:i+1], all, h.Hosts...)
			}
		}
	}
	if min(turned[true], turned[false]) < 1000 {
		t.Error("nearly none is told the other way", turned)
	}
}

// Probes of other hosts in between change nothing: each host hangs on its own alone.
func TestHostsHangOnTheirOwnProbes(t *testing.T) {
	r := rand.New(rand.NewSource(132))
	for range 300 {
		h := randomHealth(r)
		names := namesOfHosts(h.Hosts)
		l := randomProbes(r, len(names), r.Intn(mostProbes+1))
		together, all, ok := impl.PlayProbes(h.Rise, h.Fall, names, l)
		for i, name := range names {
			var own []impl.Probe
			for _, p := range l {
				if p.Host == i {
					own = append(own, impl.Probe{Fine: p.Fine})
				}
			}
			alone, many, good := impl.PlayProbes(h.Rise, h.Fall, []string{name}, own)
			if !ok || !good || alone.Hosts[0] != together.Hosts[i] {
				t.Fatalf("%v of %v alone, %v among others", alone, own, together.Hosts[i])
			}
			all -= many
		}
		if all != 0 {
			t.Errorf("%d changes are nobody's", all)
		}
	}
}

func TestUpIn(t *testing.T) {
	wantUp(t, healthOf(2, 2, upAt("b", 0), upAt("a", 1), upAt("c.a", 0)), "b", "a", "c.a")
	wantUp(t, healthOf(2, 2, downAt("b", 0), upAt("a", 1), upAt("c.a", 0)), "a", "c.a")
	wantUp(t, healthOf(2, 2, upAt("b", 0), downAt("a", 1), upAt("c.a", 0)), "b", "c.a")
	wantUp(t, healthOf(2, 2, upAt("b", 0), upAt("a", 1), downAt("c.a", 1)), "b", "a")
	wantUp(t, healthOf(2, 2, downAt("b", 0), downAt("a", 1), downAt("c.a", 0)))
	wantUp(t, healthOf(2, 2, upAt("a", 0)), "a")
	wantUp(t, healthOf(2, 2, downAt("a", 0)))
	h, _ := impl.NewHealth(2, 2, hostNames(12))
	wantUp(t, h, hostNames(12)...)
	h.Hosts[0].Up, h.Hosts[11].Up = false, false
	wantUp(t, h, hostNames(12)[1:11]...)
}

func TestIsUp(t *testing.T) {
	h := healthOf(2, 2, upAt("b", 0), downAt("a", 1), upAt("c.a", 1), downAt("*.d", 0), upAt("e.ex.com", 0))
	for _, host := range h.Hosts {
		wantKnownAs(t, h, host.Name, host.Up)
	}
	// Neither a name above nor one below is meant, a star stands for itself alone, and great letters are others.
	wantNotKnownAs(t, h, "", "c", "d", "x.d", "*", "a.c", "x.a", "b.b", "e", "ex.com", "x.e.ex.com", "aa", "B", "A", "E.ex.com", "b.", ".b", " b", "b\x00", "*.*")
	wantNotKnownAs(t, h, badNames()...)
	wantNotKnownAs(t, healthOf(2, 2, upAt("a", 0)), "", "b")
	h, _ = impl.NewHealth(2, 2, hostNames(12))
	h.Hosts[11].Up = false
	wantKnownAs(t, h, hostNames(12)[10], true)
	wantKnownAs(t, h, hostNames(12)[11], false)
	wantNotKnownAs(t, h, hostNames(13)[12])
}

func TestRowOf(t *testing.T) {
	h := healthOf(4, 6, upAt("b", 5), downAt("a", 3), upAt("c", 0), downAt("d", 0), upAt("e", 1))
	for i, row := range []int{5, 3, 0, 0, 1} {
		wantRowIs(t, h, i, row)
	}
	wantNoRow(t, h, append(wildInts(), -2, 5, 6, 11, 12)...)
	one := healthOf(10, 10, downAt("a", 9))
	wantRowIs(t, one, 0, 9)
	wantNoRow(t, one, append(wildInts(), 1, 2)...)
	var hosts []impl.Host
	for i, name := range hostNames(12) {
		hosts = append(hosts, upAt(name, i%10))
	}
	for i := range hosts {
		wantRowIs(t, healthOf(1, 10, hosts...), i, i%10)
	}
	wantNoRow(t, healthOf(1, 10, hosts...), -1, 12)
}
