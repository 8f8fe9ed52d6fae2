package tests

import (
	"fmt"
	"math/rand"
	"slices"

	"loop.example/g00300/impl"
)

// The model has its own numbers, so that the program's constants are asked for, too.
const (
	mostTargets = 12
	mostGroup   = 9
	ttlOfTold   = 5
)

func wantGoodTarget(to impl.Target) bool {
	_, ok := wantDataBytes(1, to.Data)
	return ok && wantGood(to.Host) && to.Group >= 0 && to.Group <= mostGroup && to.Weight > 0 && to.Weight <= mostWeight
}

func wantGoodPolicy(p impl.Policy) bool {
	for _, to := range p.Targets {
		if !wantGoodTarget(to) {
			return false
		}
	}
	return wantGood(p.Name) && len(p.Targets) > 0 && len(p.Targets) <= mostTargets
}

// wantRanks is a number for each target: that of its group, behind all groups for one that is told as down.
func wantRanks(p impl.Policy, h impl.Health) []int {
	down := map[string]int{}
	for _, host := range h.Hosts {
		if !host.Up {
			down[host.Name] = mostGroup + 1
		}
	}
	var ranks []int
	for _, to := range p.Targets {
		ranks = append(ranks, down[to.Host]+to.Group)
	}
	return ranks
}

// wantCandidates are those of the least rank: where nobody is well they are the least group.
func wantCandidates(p impl.Policy, h impl.Health) ([]int, bool) {
	if !wantGoodPolicy(p) || !wantGoodHealth(h) {
		return nil, false
	}
	var numbers []int
	ranks := wantRanks(p, h)
	for i, rank := range ranks {
		if rank == slices.Min(ranks) {
			numbers = append(numbers, i)
		}
	}
	return numbers, true
}

func wantGroup(p impl.Policy, h impl.Health) (int, bool) {
	numbers, ok := wantCandidates(p, h)
	if !ok {
		return 0, false
	}
	return p.Targets[numbers[0]].Group, true
}

func wantShares(p impl.Policy, h impl.Health) ([]int, int, bool) {
	numbers, ok := wantCandidates(p, h)
	if !ok {
		return nil, 0, false
	}
	shares := make([]int, len(p.Targets))
	for i, to := range p.Targets {
		if slices.Contains(numbers, i) {
			shares[i] = to.Weight
		}
	}
	return shares, totalOf(shares), true
}

// wantAllDraws tells the target of each draw below where they begin anew.
func wantAllDraws(p impl.Policy, h impl.Health) ([]int, bool) {
	numbers, ok := wantCandidates(p, h)
	if !ok {
		return nil, false
	}
	var weights []int
	for _, number := range numbers {
		weights = append(weights, p.Targets[number].Weight)
	}
	columns, _ := wantAlias(weights)
	parts, ok := wantParts(columns, totalOf(weights))
	var all []int
	for _, at := range parts {
		all = append(all, numbers[at])
	}
	return all, ok
}

func wantChosen(p impl.Policy, h impl.Health, draw int) (int, bool) {
	all, ok := wantAllDraws(p, h)
	if !ok || draw < 0 || draw > mostCounter {
		return 0, false
	}
	return all[draw%len(all)], true
}

func wantAnswer(p impl.Policy, h impl.Health, draw int) (impl.Record, bool) {
	at, ok := wantChosen(p, h, draw)
	if !ok {
		return impl.Record{}, false
	}
	return impl.Record{Name: p.Name, Type: 1, Ttl: ttlOfTold, Data: p.Targets[at].Data}, true
}

func wantGroupsIn(p impl.Policy) ([]int, bool) {
	if !wantGoodPolicy(p) {
		return nil, false
	}
	var groups []int
	for _, to := range p.Targets {
		groups = append(groups, to.Group)
	}
	slices.Sort(groups)
	return slices.Compact(groups), true
}

func policyOf(name string, targets ...impl.Target) impl.Policy {
	return impl.Policy{Name: name, Targets: slices.Clone(targets)}
}

// targetAt has data that tells its host.
func targetAt(host string, group, weight int) impl.Target {
	return impl.Target{Host: host, Data: dataFor(host), Group: group, Weight: weight}
}

func dataFor(host string) string {
	sum := 0
	for _, c := range []byte(host) {
		sum = (sum*31 + int(c)) % 65521
	}
	return fmt.Sprintf("10.%d.%d.%d", len(host), sum/256, sum%256)
}

// targetsOf are so many of one group, with these weights in turn.
func targetsOf(many, group int, weights ...int) []impl.Target {
	var l []impl.Target
	for i, host := range hostNames(many) {
		l = append(l, targetAt(host, group, weights[i%len(weights)]))
	}
	return l
}

func textsOfPolicy(p impl.Policy) []string {
	texts := []string{p.Name}
	for _, to := range p.Targets {
		texts = append(texts, to.Host, to.Data)
	}
	return texts
}

func alikePolicies(a, b impl.Policy) bool {
	return a.Name == b.Name && slices.Equal(a.Targets, b.Targets)
}

func oneOf[T any](r *rand.Rand, l []T) T {
	return l[r.Intn(len(l))]
}

// randomPolicy is good. Its hosts are those of the health, the same ones once more, and some that it does not know; often they share few groups.
func randomPolicy(r *rand.Rand, h impl.Health) impl.Policy {
	p := policyOf(oneOf(r, goodNames()))
	first, groups, weights := r.Intn(mostGroup+1), 1+r.Intn(3), randomWeights(r)
	for i := range 1 + r.Intn(mostTargets) {
		to := targetAt(oneOf(r, h.Hosts).Name, min(mostGroup, first+r.Intn(groups)), max(1, weights[i%len(weights)]))
		switch r.Intn(12) {
		case 0:
			to = targetAt(oneOf(r, []string{"", "*", "unknown.ex.com", "x." + label20}), to.Group, to.Weight)
		case 1:
			to.Group = oneOf(r, []int{0, mostGroup, r.Intn(mostGroup + 1)})
		case 2:
			to.Weight = oneOf(r, []int{1, mostWeight})
		case 3:
			to.Data = oneOf(r, []string{"0.0.0.0", "255.255.255.255", "1.1.1.1"})
		}
		p.Targets = append(p.Targets, to)
	}
	return p
}

// damagedPolicy changes one thing about a policy; what is handed in stays as it is.
func damagedPolicy(r *rand.Rand, p impl.Policy) impl.Policy {
	p = policyOf(p.Name, p.Targets...)
	if len(p.Targets) == 0 {
		return policyOf(p.Name, targetAt("a", 0, 1))
	}
	at, other := r.Intn(len(p.Targets)), r.Intn(len(p.Targets))
	to := &p.Targets[at]
	switch r.Intn(9) {
	case 0:
		p.Targets = p.Targets[:at]
	case 1:
		p.Targets = slices.Repeat(p.Targets, 1+mostTargets/len(p.Targets))
	case 2:
		p.Name = oneOf(r, append(badNames(), "a", ""))
	case 3:
		to.Host = oneOf(r, append(badNames(), "a", ""))
	case 4:
		to.Data = oneOf(r, append(badData()[1], "ns.ex.com", "7", to.Host))
	case 5:
		to.Group = oneOf(r, []int{-1, 0, mostGroup, mostGroup + 1, oneOf(r, wildInts())})
	case 6:
		to.Weight = oneOf(r, []int{-1, 0, 1, mostWeight, mostWeight + 1, oneOf(r, wildInts())})
	case 7:
		// What is too much in one place is too little in another: the sum stays.
		to.Weight, p.Targets[other].Weight = to.Weight+mostWeight, p.Targets[other].Weight-mostWeight
	case 8:
		p.Targets[at], p.Targets[other] = p.Targets[other], p.Targets[at]
	}
	return p
}

// randomDraw leans on the edges of how many draws there are, if there are some.
func randomDraw(r *rand.Rand, p impl.Policy, h impl.Health) int {
	all, _ := wantAllDraws(p, h)
	many := len(all)
	edges := []int{-1, 0, 1, many - 1, many, many + 1, 2*many - 1, 2 * many, mostCounter - 1, mostCounter, mostCounter + 1, r.Intn(many + 1), r.Intn(mostCounter)}
	return oneOf(r, append(edges, oneOf(r, wildInts())))
}
