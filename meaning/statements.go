package meaning

import (
	"math"

	"tabor/api"
	"tabor/values"
)

// block does statements; a do has one: its block.
func (r *run) block(n *api.Node, _ func(api.Val)) {
	for i := range n.Kids {
		r.step(&n.Kids[i])
	}
}

func (r *run) local(n *api.Node, _ func(api.Val)) {
	l := r.all(n.Kids)
	slots := r.slots()[n.Int:]
	for i := range n.Names {
		slots[i] = api.Val{}
	}
	copy(slots, l)
}

func (r *run) assign(n *api.Node, _ func(api.Val)) {
	left, right := &n.Kids[0], &n.Kids[1]
	if left.Kind == api.NodeName {
		r.slots()[left.Int] = r.value(right)
		return
	}
	t := r.value(&left.Kids[0])
	k := r.value(&left.Kids[1])
	fine(r.heap.Set(t, k, r.value(right)))
}

func (r *run) choice(n *api.Node, _ func(api.Val)) {
	i := 0
	for ; i+1 < len(n.Kids); i += 2 {
		if values.So(r.value(&n.Kids[i])) {
			r.step(&n.Kids[i+1])
			return
		}
	}
	if i < len(n.Kids) {
		r.step(&n.Kids[i])
	}
}

// looped does what a break ends.
func looped(do func()) {
	defer func() {
		switch x := recover().(type) {
		case nil, broken:
		default:
			panic(x)
		}
	}()
	do()
}

func (r *run) while(n *api.Node, _ func(api.Val)) {
	looped(func() {
		for values.So(r.value(&n.Kids[0])) {
			r.step(&n.Kids[1])
		}
	})
}

func (r *run) count(n *api.Node, _ func(api.Val)) {
	last := len(n.Kids) - 1
	l := append(r.all(n.Kids[:last]), values.Int(1))
	for _, v := range l {
		if v.Kind != api.ValInt {
			panic(failed{errType})
		}
	}
	at, end, by := l[0].Int, l[1].Int, l[2].Int
	if by == 0 {
		panic(failed{errZero})
	}
	looped(func() {
		for by > 0 && at <= end || by < 0 && at >= end {
			r.slots()[n.Int] = values.Int(at)
			r.step(&n.Kids[last])
			if by > 0 && at > math.MaxInt64-by || by < 0 && at < math.MinInt64-by {
				return
			}
			at += by
		}
	})
}

func (r *run) giveBack(n *api.Node, _ func(api.Val)) {
	v := api.Val{}
	if len(n.Kids) > 0 {
		v = r.value(&n.Kids[0])
	}
	panic(returned{v})
}

func (r *run) leave(*api.Node, func(api.Val)) { panic(broken{}) }

func (r *run) nothing(*api.Node, func(api.Val)) {}
