package meaning

import (
	"tabor/api"
	"tabor/bridge"
	"tabor/commands"
	"tabor/library"
	"tabor/values"
)

func (r *run) constant(n *api.Node, put func(api.Val)) {
	switch n.Kind {
	case api.NodeTrue:
		put(values.Bool(true))
	case api.NodeFalse:
		put(values.Bool(false))
	case api.NodeInt:
		put(values.Int(n.Int))
	case api.NodeText:
		put(values.Text(n.Text))
	default:
		put(api.Val{})
	}
}

func (r *run) name(n *api.Node, put func(api.Val)) {
	switch n.Int {
	case -1:
		put(r.keys)
	case -2:
		put(r.args)
	default:
		put(r.slots()[n.Int])
	}
}

func (r *run) index(n *api.Node, put func(api.Val)) {
	t := r.value(&n.Kids[0])
	v, why := r.heap.Get(t, r.value(&n.Kids[1]))
	fine(why)
	put(v)
}

func (r *run) table(n *api.Node, put func(api.Val)) {
	t, why := r.heap.Table()
	fine(why)
	items := int64(0)
	for i := range n.Kids {
		kid := &n.Kids[i]
		var k api.Val
		if kid.Kind == api.NodePair {
			k = r.value(&kid.Kids[0])
		} else {
			items++
			k = values.Int(items)
		}
		fine(r.heap.Set(t, k, r.value(&kid.Kids[len(kid.Kids)-1])))
	}
	put(t)
}

func (r *run) between(n *api.Node, put func(api.Val)) {
	left := r.value(&n.Kids[0])
	if n.Name == "and" || n.Name == "or" {
		if values.So(left) == (n.Name == "or") {
			put(left)
		} else {
			put(r.value(&n.Kids[1]))
		}
		return
	}
	v, why := r.heap.Op(n.Name, left, r.value(&n.Kids[1]))
	fine(why)
	put(v)
}

func (r *run) not(n *api.Node, put func(api.Val)) {
	put(values.Bool(!values.So(r.value(&n.Kids[0]))))
}

func (r *run) turned(n *api.Node, put func(api.Val)) {
	v, why := values.Neg(r.value(&n.Kids[0]))
	fine(why)
	put(v)
}

func (r *run) length(n *api.Node, put func(api.Val)) {
	m, why := r.heap.Len(r.value(&n.Kids[0]))
	fine(why)
	put(values.Int(m))
}

func (r *run) call(n *api.Node, put func(api.Val)) {
	operands := r.all(n.Kids)
	if n.Int > 0 {
		put(r.done(int(n.Int), operands))
		return
	}
	switch n.Name {
	case "call":
		put(r.command(operands, false))
	case "try":
		put(r.command(operands, true))
	case "error":
		panic(failed{complaint(operands)})
	default:
		v, why, _ := library.Call(r.heap, n.Name, operands...)
		fine(why)
		put(v)
	}
}

// isText tells whether a value may stand for a text.
func isText(v api.Val) bool { return v.Kind == api.ValText || v.Kind == api.ValInt }

// complaint is the text of a script's own error.
func complaint(operands []api.Val) string {
	if len(operands) == 0 || !isText(operands[0]) {
		return errError
	}
	return values.Told(operands[0])
}

// command does a command; an error of it is a value only where the script tries.
func (r *run) command(operands []api.Val, try bool) api.Val {
	if len(operands) == 0 {
		panic(failed{errArgs})
	}
	var args []string
	for _, v := range operands {
		if !isText(v) {
			panic(failed{errType})
		}
		args = append(args, values.Told(v))
	}
	reply, effects := commands.Do(r.k, r.now, args...)
	r.effects = append(r.effects, effects...)
	if reply.Kind == api.ReplyError && !try {
		panic(failed{reply.Text})
	}
	v, why := bridge.Value(r.heap, reply)
	fine(why)
	return v
}
