package syntax

import (
	"strings"

	"tabor/api"
)

// values takes expressions with commas between.
func (r *reader) values() []part {
	l := []part{r.value()}
	for r.skip(",") {
		l = append(l, r.value())
	}
	return l
}

// value takes an expression.
func (r *reader) value() part { return r.bound(0) }

// bound takes what operators from a bond on hold together.
func (r *reader) bound(bond int) part {
	if bond == len(r.bonds) {
		return r.single()
	}
	parts := []part{r.bound(bond + 1)}
	var ops []string
	for {
		w := r.peek()
		if _, ok := r.bonds[bond][w.Text]; !ok || w.Kind != api.WordSign && w.Kind != api.WordKey {
			break
		}
		r.next++
		ops = append(ops, w.Text)
		parts = append(parts, r.bound(bond+1))
	}
	if len(ops) > 0 && ops[0] == ".." {
		return r.leanRight(ops, parts)
	}
	left := parts[0]
	for i, op := range ops {
		left = r.between(op, left, parts[i+1])
	}
	return left
}

// between sets an operator over two.
func (r *reader) between(op string, left, right part) part {
	return r.over(api.Node{Kind: api.NodeBin, Name: strings.Clone(op)}, left, right)
}

// leanRight joins parts from the last one on.
func (r *reader) leanRight(ops []string, parts []part) part {
	right := parts[len(ops)]
	for i := len(ops) - 1; i >= 0; i-- {
		right = r.between(ops[i], parts[i], right)
	}
	return right
}

// single takes operators of one operand, and it.
func (r *reader) single() part {
	var kinds []api.NodeKind
	for {
		kind := api.NodeNil
		switch {
		case r.skip("not"):
			kind = api.NodeNot
		case r.skip("-"):
			kind = api.NodeNeg
		case r.skip("#"):
			kind = api.NodeLen
		}
		if kind == api.NodeNil {
			break
		}
		kinds = append(kinds, kind)
	}
	p := r.plain()
	for i := len(kinds) - 1; i >= 0; i-- {
		p = r.over(api.Node{Kind: kinds[i]}, p)
	}
	return p
}

// plain takes an expression without operators.
func (r *reader) plain() part {
	w := r.peek()
	switch {
	case w.Kind == api.WordInt:
		r.next++
		return leaf(api.Node{Kind: api.NodeInt, Int: w.Int})
	case w.Kind == api.WordText:
		r.next++
		return leaf(api.Node{Kind: api.NodeText, Text: strings.Clone(w.Text)})
	case r.skip("nil"):
		return leaf(api.Node{Kind: api.NodeNil})
	case r.skip("true"):
		return leaf(api.Node{Kind: api.NodeTrue})
	case r.skip("false"):
		return leaf(api.Node{Kind: api.NodeFalse})
	case r.is("{"):
		return r.table()
	}
	return r.indexed()
}

// indexed takes a name, a call or brackets, and what is indexed of it.
func (r *reader) indexed() part {
	var p part
	if r.is("(") {
		r.opens("(")
		p = r.value()
		r.closes(")")
	} else {
		p = leaf(api.Node{Kind: api.NodeName, Name: r.name()})
		if r.is("(") {
			p = r.call(p.Name)
		}
	}
	for {
		switch {
		case r.skip("."):
			p = r.over(api.Node{Kind: api.NodeIndex}, p, leaf(api.Node{Kind: api.NodeText, Text: r.name()}))
		case r.is("["):
			p = r.over(api.Node{Kind: api.NodeIndex}, p, r.key())
		default:
			return p
		}
	}
}

// key takes an expression in square brackets.
func (r *reader) key() part {
	r.opens("[")
	p := r.value()
	r.closes("]")
	return p
}

// call takes the operands of a call.
func (r *reader) call(name string) part {
	var kids []part
	r.opens("(")
	if !r.is(")") {
		kids = r.values()
	}
	r.closes(")")
	return r.over(api.Node{Kind: api.NodeCall, Name: name}, kids...)
}

// table takes a table.
func (r *reader) table() part {
	var kids []part
	r.opens("{")
	for !r.is("}") {
		kids = append(kids, r.item())
		if !r.skip(",") && !r.skip(";") {
			break
		}
	}
	r.closes("}")
	return r.over(api.Node{Kind: api.NodeTable}, kids...)
}

// item takes what stands between two commas of a table.
func (r *reader) item() part {
	var key part
	w := r.peek()
	ahead := r.next+1 < len(r.words) && r.words[r.next+1].Kind == api.WordSign && r.words[r.next+1].Text == "="
	switch {
	case r.is("["):
		key = r.key()
	case w.Kind == api.WordName && ahead:
		key = leaf(api.Node{Kind: api.NodeText, Text: r.name()})
	default:
		return r.over(api.Node{Kind: api.NodeItem}, r.value())
	}
	r.expect("=")
	return r.over(api.Node{Kind: api.NodePair}, key, r.value())
}
