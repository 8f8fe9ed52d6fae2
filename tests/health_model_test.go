package tests

import (
	"fmt"
	"math/rand"
	"slices"
	"strings"

	"loop.example/g00300/impl"
)

// The model has its own numbers, so that the program's constants are asked for, too.
const (
	mostHosts  = 12
	mostProbes = 200
	mostRow    = 10
)

// rowThatTurns is how many probes in a row it takes to have one told the other way.
func rowThatTurns(h impl.Health, up bool) int {
	return map[bool]int{true: h.Fall, false: h.Rise}[up]
}

func wantGoodHealth(h impl.Health) bool {
	if min(h.Rise, h.Fall) < 1 || max(h.Rise, h.Fall) > mostRow || len(h.Hosts) == 0 || len(h.Hosts) > mostHosts {
		return false
	}
	names := map[string]bool{"": true}
	for _, host := range h.Hosts {
		if names[host.Name] || !wantGood(host.Name) || host.Row < 0 || host.Row >= rowThatTurns(h, host.Up) {
			return false
		}
		names[host.Name] = true
	}
	return true
}

func wantNewHealth(rise, fall int, names []string) (impl.Health, bool) {
	h := healthOf(rise, fall)
	for _, name := range names {
		h.Hosts = append(h.Hosts, upAt(name, 0))
	}
	if !wantGoodHealth(h) {
		return impl.Health{}, false
	}
	return h, true
}

// wantSeen has all that was seen of one host as a text, from what its Row tells of on. Rows that are long enough are looked for in it, one behind the other: Row is what the rest ends with.
func wantSeen(h impl.Health, host impl.Host, seen string) (impl.Host, int) {
	against := map[bool]string{true: "-", false: "+"}
	seen = strings.Repeat(against[host.Up], host.Row) + seen
	for changes := 0; ; changes++ {
		_, rest, turned := strings.Cut(seen, strings.Repeat(against[host.Up], rowThatTurns(h, host.Up)))
		if !turned {
			host.Row = len(seen) - len(strings.TrimRight(seen, against[host.Up]))
			return host, changes
		}
		seen, host.Up = rest, !host.Up
	}
}

// wantProbed goes host by host, not probe by probe.
func wantProbed(h impl.Health, l []impl.Probe) (impl.Health, int, bool) {
	if !wantGoodHealth(h) {
		return impl.Health{}, 0, false
	}
	seen := make([]string, len(h.Hosts))
	for _, p := range l {
		if p.Host < 0 || p.Host >= len(seen) {
			return impl.Health{}, 0, false
		}
		seen[p.Host] += map[bool]string{true: "+", false: "-"}[p.Fine]
	}
	told, all := healthOf(h.Rise, h.Fall), 0
	for i, host := range h.Hosts {
		host, changes := wantSeen(h, host, seen[i])
		told.Hosts, all = append(told.Hosts, host), all+changes
	}
	return told, all, true
}

func wantTakeProbe(h impl.Health, p impl.Probe) (impl.Health, bool, bool) {
	told, changes, ok := wantProbed(h, []impl.Probe{p})
	return told, changes == 1, ok
}

func wantPlayProbes(rise, fall int, names []string, l []impl.Probe) (impl.Health, int, bool) {
	h, ok := wantNewHealth(rise, fall, names)
	if !ok || len(l) > mostProbes {
		return impl.Health{}, 0, false
	}
	return wantProbed(h, l)
}

func wantUpIn(h impl.Health) ([]string, bool) {
	if !wantGoodHealth(h) {
		return nil, false
	}
	names := namesOfHosts(h.Hosts)
	for _, host := range h.Hosts {
		if !host.Up {
			names = slices.DeleteFunc(names, func(name string) bool { return name == host.Name })
		}
	}
	return names, true
}

func wantIsUp(h impl.Health, name string) (bool, bool) {
	up, there := false, false
	if wantGoodHealth(h) {
		for _, host := range h.Hosts {
			up, there = up || host.Up && host.Name == name, there || host.Name == name
		}
	}
	return up, there
}

func wantRowOf(h impl.Health, host int) (int, bool) {
	if !wantGoodHealth(h) || host < 0 || host >= len(h.Hosts) {
		return 0, false
	}
	return h.Hosts[host].Row, true
}

func healthOf(rise, fall int, hosts ...impl.Host) impl.Health {
	return impl.Health{Rise: rise, Fall: fall, Hosts: slices.Clone(hosts)}
}

func upAt(name string, row int) impl.Host {
	return impl.Host{Name: name, Up: true, Row: row}
}

func downAt(name string, row int) impl.Host {
	return impl.Host{Name: name, Row: row}
}

func alikeHealth(a, b impl.Health) bool {
	return a.Rise == b.Rise && a.Fall == b.Fall && slices.Equal(a.Hosts, b.Hosts)
}

func namesOfHosts(l []impl.Host) []string {
	var names []string
	for _, host := range l {
		names = append(names, host.Name)
	}
	return names
}

// probesOf are probes of one host: a + for one that is Fine, a - for one that isn't.
func probesOf(host int, seen string) []impl.Probe {
	var l []impl.Probe
	for _, c := range seen {
		l = append(l, impl.Probe{Host: host, Fine: c == '+'})
	}
	return l
}

// hostNames are so many names that may be hosts', no two alike, the first ones on the edges of what names may be.
func hostNames(many int) []string {
	names := []string{"a", "ex.com", "a.ex.com", "*", "*.ex.com", "_-.0", label20, name60, labels8, stars8, "aa", "b"}
	for i := len(names); i < many; i++ {
		names = append(names, fmt.Sprintf("n%d.ex.com", i))
	}
	return names[:many]
}

// randomHealth is good, and leans on the edges of its numbers.
func randomHealth(r *rand.Rand) impl.Health {
	rows := []int{1, 2, 3, mostRow, 1 + r.Intn(mostRow), 1 + r.Intn(mostRow)}
	h := healthOf(rows[r.Intn(6)], rows[r.Intn(6)])
	names := hostNames(16)
	r.Shuffle(len(names), func(i, k int) { names[i], names[k] = names[k], names[i] })
	for _, name := range names[:1+r.Intn(mostHosts)] {
		host := impl.Host{Name: name, Up: r.Intn(2) == 0}
		most := rowThatTurns(h, host.Up) - 1
		host.Row = []int{0, most, r.Intn(most + 1)}[r.Intn(3)]
		h.Hosts = append(h.Hosts, host)
	}
	return h
}

// damagedHealth changes one thing about health; what is handed in stays as it is.
func damagedHealth(r *rand.Rand, h impl.Health) impl.Health {
	h = healthOf(h.Rise, h.Fall, h.Hosts...)
	if len(h.Hosts) == 0 {
		return healthOf(h.Rise, h.Fall, upAt("a", 0))
	}
	at, other := r.Intn(len(h.Hosts)), r.Intn(len(h.Hosts))
	switch r.Intn(9) {
	case 0:
		h.Hosts = h.Hosts[:at]
	case 1:
		for _, name := range hostNames(30)[17:] {
			h.Hosts = append(h.Hosts, upAt(name, 0))
		}
	case 2:
		h.Rise = []int{0, 1, 2, mostRow, mostRow + 1, wildInts()[r.Intn(8)]}[r.Intn(6)]
	case 3:
		h.Fall = []int{0, 1, 2, mostRow, mostRow + 1, wildInts()[r.Intn(8)]}[r.Intn(6)]
	case 4:
		h.Hosts[at].Name = h.Hosts[other].Name
	case 5:
		h.Hosts[at].Name = append(badNames(), "", "A", "ex.com.")[r.Intn(len(badNames())+3)]
	case 6:
		h.Hosts[at].Up = !h.Hosts[at].Up
	case 7:
		h.Hosts[at].Row = []int{-1, h.Rise - 1, h.Rise, h.Fall - 1, h.Fall}[r.Intn(5)]
	case 8:
		h.Hosts[at].Row = wildInts()[r.Intn(8)]
	}
	return h
}

// randomProbes are of so many hosts. They come in rows, so that long ones come about.
func randomProbes(r *rand.Rand, hosts, many int) []impl.Probe {
	var l []impl.Probe
	for len(l) < many {
		p := impl.Probe{Host: r.Intn(hosts), Fine: r.Intn(2) == 0}
		for range 1 + r.Intn(mostRow+1) {
			l = append(l, p)
			// Others, which leave the row as it is, come in between.
			if r.Intn(3) == 0 {
				l = append(l, impl.Probe{Host: r.Intn(hosts), Fine: r.Intn(2) == 0})
			}
		}
	}
	return l[:many]
}

// damagedProbes changes one thing about probes; the list handed in stays as it is.
func damagedProbes(r *rand.Rand, l []impl.Probe, hosts int) []impl.Probe {
	l = slices.Clone(l)
	if len(l) == 0 {
		return []impl.Probe{{Host: hosts}}
	}
	at := []int{0, len(l) - 1, r.Intn(len(l))}[r.Intn(3)]
	switch r.Intn(4) {
	case 0:
		return slices.Repeat(l, 1+mostProbes/len(l))
	case 1:
		l[at].Host = []int{-1, hosts}[r.Intn(2)]
	case 2:
		l[at].Host = wildInts()[r.Intn(8)]
	case 3:
		l[at].Fine = !l[at].Fine
	}
	return l
}
