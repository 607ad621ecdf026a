package colls

import (
	"slices"
	"strconv"

	"tabor/api"
	"tabor/deque"
	"tabor/ranks"
)

// has tells whether a set has a member.
func (a *asked) has(name string) bool {
	_, ok := slices.BinarySearch(a.List, name)
	return ok
}

func (a *asked) addMembers() api.Reply {
	a.expect(1, most, 1)
	a.look(api.ThingSet)
	l := fresh(a.args, a.has)
	bound(len(a.List) + len(l))
	for _, name := range l {
		a.put(api.Effect{Op: api.EffAdd, Name: name})
	}
	return count(len(l))
}

func (a *asked) dropMembers() api.Reply {
	a.expect(1, most, 1)
	a.look(api.ThingSet)
	for _, name := range fresh(a.args, func(s string) bool { return !a.has(s) }) {
		a.take(api.Effect{Op: api.EffRemove, Name: name})
	}
	return count(len(a.effects))
}

func (a *asked) isMember() api.Reply {
	a.expect(1, 1, 1)
	a.look(api.ThingSet)
	if !a.has(a.args[0]) {
		return count(0)
	}
	return count(1)
}

func (a *asked) countMembers() api.Reply {
	a.bare(api.ThingSet)
	return count(len(a.List))
}

func (a *asked) allMembers() api.Reply {
	a.bare(api.ThingSet)
	return texts(a.List, itself)
}

func (a *asked) joinMembers() api.Reply {
	a.look(api.ThingSet)
	both := a.List
	for _, key := range a.args {
		a.key = key
		a.look(api.ThingSet)
		both = slices.DeleteFunc(both, func(s string) bool { return !a.has(s) })
	}
	return texts(both, itself)
}

// scores makes what tells a member's score. A map pays for many names only.
func (a *asked) scores(names int) func(name string) (int64, bool) {
	if names < 8 {
		return func(name string) (int64, bool) {
			for _, m := range a.Ranks {
				if m.Name == name {
					return m.Score, true
				}
			}
			return 0, false
		}
	}
	all := map[string]int64{}
	for _, m := range a.Ranks {
		all[m.Name] = m.Score
	}
	return func(name string) (int64, bool) {
		score, ok := all[name]
		return score, ok
	}
}

func (a *asked) setRanks() api.Reply {
	a.expect(2, most, 2)
	var scores []int64
	for _, s := range odd(a.args) {
		scores = append(scores, number(s))
	}
	a.look(api.ThingRanks)
	names := odd(a.args[1:])
	score := a.scores(len(names))
	n := len(fresh(names, func(s string) bool {
		_, ok := score(s)
		return ok
	}))
	bound(len(a.Ranks) + n)
	for i, name := range names {
		a.put(api.Effect{Op: api.EffRank, Name: name, Int: scores[i]})
	}
	return count(n)
}

func (a *asked) dropRanks() api.Reply {
	a.expect(1, most, 1)
	a.look(api.ThingRanks)
	score := a.scores(len(a.args))
	for _, name := range fresh(a.args, func(s string) bool {
		_, ok := score(s)
		return !ok
	}) {
		a.take(api.Effect{Op: api.EffUnrank, Name: name})
	}
	return count(len(a.effects))
}

func (a *asked) getScore() api.Reply {
	a.expect(1, 1, 1)
	a.look(api.ThingRanks)
	n, ok := a.scores(1)(a.args[0])
	if !ok {
		return api.Reply{}
	}
	return told(strconv.FormatInt(n, 10))
}

func (a *asked) reckonScore() api.Reply {
	a.expect(2, 2, 1)
	by := number(a.args[0])
	a.look(api.ThingRanks)
	n, ok := a.scores(1)(a.args[1])
	n = sum(n, by)
	if !ok {
		bound(len(a.Ranks) + 1)
	}
	a.put(api.Effect{Op: api.EffRank, Name: a.args[1], Int: n})
	return told(strconv.FormatInt(n, 10))
}

func (a *asked) countRanks() api.Reply {
	a.bare(api.ThingRanks)
	return count(len(a.Ranks))
}

// ranked is the ranked set that is asked, with a coin for each member that lets few of them stand high.
func (a *asked) ranked() *ranks.Ranks {
	coins := make([]int, len(a.Ranks))
	for i := range coins {
		coins[i] = i
	}
	r, _ := ranks.Of(a.Ranks, coins...)
	return r
}

// byName is what a member has of texts.
func byName(m api.Rank) []string { return []string{m.Name} }

func (a *asked) getRank() api.Reply {
	a.expect(1, 1, 1)
	a.look(api.ThingRanks)
	n, ok := a.ranked().Rank(a.args[0])
	if !ok {
		return api.Reply{}
	}
	return count(n)
}

func (a *asked) rangeRanks() api.Reply {
	from, until := a.span()
	a.look(api.ThingRanks)
	first, end := deque.Span(len(a.Ranks), from, until)
	return texts(a.ranked().At(first, end), byName)
}

func (a *asked) betweenScores() api.Reply {
	least, greatest := a.span()
	a.look(api.ThingRanks)
	return texts(a.ranked().Between(least, greatest), byName)
}
