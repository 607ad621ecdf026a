package colls

import (
	"slices"
	"strconv"
	"strings"

	"tabor/api"
)

// field tells a field's text, and whether it is there.
func (a *asked) field(name string) (string, bool) {
	i, ok := slices.BinarySearchFunc(a.Pairs, name, func(p api.Pair, s string) int { return strings.Compare(p.Name, s) })
	if !ok {
		return "", false
	}
	return a.Pairs[i].Text, true
}

// hasField tells whether a field is there.
func (a *asked) hasField(name string) bool {
	_, ok := a.field(name)
	return ok
}

func (a *asked) setFields() api.Reply {
	a.expect(2, most, 2)
	a.look(api.ThingHash)
	n := len(fresh(odd(a.args), a.hasField))
	bound(len(a.Pairs) + n)
	for i := 0; i < len(a.args); i += 2 {
		a.put(api.Effect{Op: api.EffHash, Name: a.args[i], Text: a.args[i+1]})
	}
	return count(n)
}

func (a *asked) getField() api.Reply {
	a.expect(1, 1, 1)
	a.look(api.ThingHash)
	s, ok := a.field(a.args[0])
	if !ok {
		return api.Reply{}
	}
	return told(s)
}

func (a *asked) dropFields() api.Reply {
	a.expect(1, most, 1)
	a.look(api.ThingHash)
	for _, name := range fresh(a.args, func(s string) bool { return !a.hasField(s) }) {
		a.take(api.Effect{Op: api.EffUnhash, Name: name})
	}
	return count(len(a.effects))
}

func (a *asked) countFields() api.Reply {
	a.bare(api.ThingHash)
	return count(len(a.Pairs))
}

func (a *asked) allFields() api.Reply {
	a.bare(api.ThingHash)
	return texts(a.Pairs, func(p api.Pair) []string { return []string{p.Name, p.Text} })
}

func (a *asked) reckonField() api.Reply {
	a.expect(2, 2, 1)
	by := number(a.args[1])
	a.look(api.ThingHash)
	n := int64(0)
	s, ok := a.field(a.args[0])
	if ok {
		n = number(s)
	} else {
		bound(len(a.Pairs) + 1)
	}
	n = sum(n, by)
	a.put(api.Effect{Op: api.EffHash, Name: a.args[0], Text: strconv.FormatInt(n, 10)})
	return api.Reply{Kind: api.ReplyInt, Int: n}
}
