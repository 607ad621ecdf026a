package colls

import (
	"tabor/api"
	"tabor/deque"
)

// push adds items by an effect.
func (a *asked) push(op api.EffectOp) api.Reply {
	a.expect(1, most, 1)
	a.look(api.ThingList)
	n := len(a.List) + len(a.args)
	bound(n)
	for _, s := range a.args {
		a.put(api.Effect{Op: op, Text: s})
	}
	return count(n)
}

func (a *asked) pushHead() api.Reply { return a.push(api.EffHead) }

func (a *asked) pushTail() api.Reply { return a.push(api.EffTail) }

// pop takes the item at a place by an effect.
func (a *asked) pop(op api.EffectOp, place int64) api.Reply {
	a.bare(api.ThingList)
	i, ok := deque.Place(len(a.List), place)
	if !ok {
		return api.Reply{}
	}
	a.take(api.Effect{Op: op})
	return told(a.List[i])
}

func (a *asked) popHead() api.Reply { return a.pop(api.EffUnhead, 0) }

func (a *asked) popTail() api.Reply { return a.pop(api.EffUntail, -1) }

func (a *asked) countItems() api.Reply {
	a.bare(api.ThingList)
	return count(len(a.List))
}

func (a *asked) getItem() api.Reply {
	a.expect(1, 1, 1)
	at := number(a.args[0])
	a.look(api.ThingList)
	i, ok := deque.Place(len(a.List), at)
	if !ok {
		return api.Reply{}
	}
	return told(a.List[i])
}

// span reads the two numbers that a command has.
func (a *asked) span() (int64, int64) {
	a.expect(2, 2, 1)
	from := number(a.args[0])
	return from, number(a.args[1])
}

func (a *asked) rangeItems() api.Reply {
	from, until := a.span()
	a.look(api.ThingList)
	first, end := deque.Span(len(a.List), from, until)
	return texts(a.List[first:end], itself)
}

func (a *asked) setItem() api.Reply {
	a.expect(2, 2, 1)
	at := number(a.args[0])
	a.look(api.ThingList)
	i, ok := deque.Place(len(a.List), at)
	if !ok {
		panic(failed{errRange})
	}
	a.put(api.Effect{Op: api.EffAt, Int: int64(i), Text: a.args[1]})
	return api.Reply{Kind: api.ReplyStatus, Text: "OK"}
}
