package route

import (
	"cmp"
	"slices"
	"strings"

	"holloway/api"
	"holloway/checks"
	"holloway/times"
)

// noAnswer is in the place of milliseconds where there was no answer.
const noAnswer = -1

// checkMillis is what is wrong with how long an answer took.
func checkMillis(n int) api.Errno { return checks.Number(n, noAnswer, api.MaxMillis) }

// checkGain is what is wrong with by how much something must be better.
func checkGain(gain int) api.Errno { return checks.Number(gain, 0, api.MaxMillis) }

// An offer is who could be taken, and how long it takes with them.
type offer struct {
	who    string
	millis int
}

// chosen is who is taken of some offers, behind who was taken before; empty if there are no offers.
func chosen(l []offer, before string, gain int) string {
	if len(l) == 0 {
		return ""
	}
	best := slices.MinFunc(l, func(x, y offer) int {
		return cmp.Or(cmp.Compare(x.millis, y.millis), strings.Compare(x.who, y.who))
	})
	stays := func(x offer) bool { return x.who == before && x.millis-best.millis < gain }
	if slices.ContainsFunc(l, stays) {
		return before
	}
	return best.who
}

// CheckProbes validates probes.
func CheckProbes(l []api.Probe) api.Errno {
	check := func(p api.Probe) api.Errno {
		return cmp.Or(checks.Moment(p.At), checks.Key(p.Node), checks.Key(p.Relay), checkMillis(p.Millis))
	}
	return checks.Rising(l, api.MaxProbes, check, func(x, y api.Probe) int {
		return cmp.Or(cmp.Compare(x.At, y.At), strings.Compare(x.Node, y.Node), strings.Compare(x.Relay, y.Relay))
	})
}

func momentOfProbe(p api.Probe) int { return p.At }

// answersTo are the probes of a node that had an answer.
func answersTo(l []api.Probe, node string) []api.Probe {
	return slices.DeleteFunc(slices.Clone(l), func(p api.Probe) bool { return p.Node != node || p.Millis == noAnswer })
}

// homesOf are the times of all homes of a node, by its probes that had an answer: rounds without one change nothing.
func homesOf(answers []api.Probe, gain int) record {
	var out record
	for at, round := range times.Moments(answers, momentOfProbe) {
		var offers []offer
		for _, p := range round {
			offers = append(offers, offer{who: p.Relay, millis: p.Millis})
		}
		out.give(chosen(offers, out.holder(), gain), at)
	}
	return out
}

// Home is the home of a node.
func Home(l []api.Probe, gain int, node string, at int) (string, api.Errno) {
	homes, e := Homes(l, gain, node)
	if e = cmp.Or(e, checks.Moment(at)); e != api.OK {
		return "", e
	}
	home := record(homes).at(at)
	return home, checks.Need(home != "", api.ErrNone)
}

// Homes are the times of all homes of a node.
func Homes(l []api.Probe, gain int, node string) ([]api.Turn, api.Errno) {
	if e := cmp.Or(CheckProbes(l), checkGain(gain), checks.Key(node)); e != api.OK {
		return nil, e
	}
	return homesOf(answersTo(l, node), gain), api.OK
}

// toHome is the home of a node at a moment, and how long it takes to there; an empty one if it has none.
func toHome(l []api.Probe, gain int, node string, at int) offer {
	answers := answersTo(l, node)
	home := offer{who: homesOf(answers, gain).at(at)}
	for _, p := range answers {
		if p.At <= at && p.Relay == home.who {
			home.millis = p.Millis / 2
		}
	}
	return home
}

// Relayed are the relays by which two nodes talk.
func Relayed(l []api.Probe, links []api.Link, gain int, a, b string, at int) ([]string, int, api.Errno) {
	right := cmp.Or(CheckProbes(l), CheckLinks(links), checkGain(gain), checks.Key(a), checks.Key(b))
	if e := cmp.Or(right, checks.Need(a != b, api.ErrTwice), checks.Moment(at)); e != api.OK {
		return nil, 0, e
	}
	from, to := toHome(l, gain, a, at), toHome(l, gain, b, at)
	if from.who == "" || to.who == "" {
		return nil, 0, api.ErrNone
	}
	way, millis, e := through(links, from.who, to.who)
	if e != api.OK {
		return nil, 0, e
	}
	return way, from.millis + millis + to.millis, api.OK
}
