package compile

import "tabor/api"

// block makes statements; a do has one: its block.
func (m *maker) block(n *api.Node, _ int) {
	for i := range n.Kids {
		m.step(&n.Kids[i])
	}
}

// local makes the values in the new slots themselves: no expression can read these yet.
func (m *maker) local(n *api.Node, _ int) {
	slot := int(n.Int)
	for i := range n.Kids {
		m.into(&n.Kids[i], slot+i)
	}
	if len(n.Kids) < len(n.Names) {
		m.emit(api.OpNil, slot+len(n.Kids), slot+len(n.Names)-1, 0)
	}
}

func (m *maker) assign(n *api.Node, _ int) {
	left, right := &n.Kids[0], &n.Kids[1]
	if left.Kind == api.NodeIndex {
		t := m.operand(&left.Kids[0])
		k := m.operand(&left.Kids[1])
		m.emit(api.OpSet, t, k, m.operand(right))
		return
	}
	slot := int(left.Int)
	early := right.Kind == api.NodeTable || right.Kind == api.NodeBin && (right.Name == "and" || right.Name == "or")
	if early { // its register is written while it is made, and it may read the local
		m.emit(api.OpMove, slot, m.value(right), 0)
		return
	}
	m.into(right, slot)
}

// condition makes a condition, and tells what lets it lead on here where it is not so.
func (m *maker) condition(n *api.Node) func() {
	top := m.top
	r := m.operand(n)
	m.top = top
	return m.jump(api.OpUnless, r, 0)
}

func (m *maker) choice(n *api.Node, _ int) {
	var ends []func()
	i := 0
	for ; i+1 < len(n.Kids); i += 2 {
		otherwise := m.condition(&n.Kids[i])
		m.step(&n.Kids[i+1])
		if i+2 < len(n.Kids) {
			ends = append(ends, m.jump(api.OpJump, 0, 0))
		}
		otherwise()
	}
	if i < len(n.Kids) {
		m.step(&n.Kids[i])
	}
	for _, end := range ends {
		end()
	}
}

// looped makes what a break leaves; the breaks lead on behind it.
func (m *maker) looped(inner func()) {
	outer := m.leaves
	m.leaves = nil
	inner()
	for _, leave := range m.leaves {
		leave()
	}
	m.leaves = outer
}

func (m *maker) while(n *api.Node, _ int) {
	m.looped(func() {
		start := len(m.Code)
		m.leaves = append(m.leaves, m.condition(&n.Kids[0]))
		m.step(&n.Kids[1])
		m.emit(api.OpJump, start, 0, 0)
	})
}

func (m *maker) count(n *api.Node, _ int) {
	last := len(n.Kids) - 1
	first := m.value(&n.Kids[0])
	m.value(&n.Kids[1])
	if last == 3 {
		m.value(&n.Kids[2])
	} else {
		m.emit(api.OpInt, m.take(), m.int(1), 0)
	}
	slot := int(n.Int)
	m.looped(func() {
		m.leaves = append(m.leaves, m.jump(api.OpFor, first, slot))
		start := len(m.Code)
		m.step(&n.Kids[last])
		m.emit(api.OpNext, first, start, slot)
	})
}

func (m *maker) giveBack(n *api.Node, _ int) {
	if len(n.Kids) == 0 {
		m.emit(api.OpEnd, 0, 0, 0)
		return
	}
	m.emit(api.OpReturn, m.operand(&n.Kids[0]), 0, 0)
}

func (m *maker) leave(*api.Node, int) { m.leaves = append(m.leaves, m.jump(api.OpJump, 0, 0)) }

func (m *maker) nothing(*api.Node, int) {}

func (m *maker) constant(n *api.Node, target int) {
	switch n.Kind {
	case api.NodeTrue:
		m.emit(api.OpTrue, target, 0, 0)
	case api.NodeFalse:
		m.emit(api.OpFalse, target, 0, 0)
	case api.NodeInt:
		m.emit(api.OpInt, target, m.int(n.Int), 0)
	case api.NodeText:
		m.emit(api.OpText, target, m.text(n.Text), 0)
	default:
		m.emit(api.OpNil, target, target, 0)
	}
}

func (m *maker) name(n *api.Node, target int) {
	switch n.Int {
	case -1:
		m.emit(api.OpKeys, target, 0, 0)
	case -2:
		m.emit(api.OpArgs, target, 0, 0)
	default:
		m.emit(api.OpMove, target, int(n.Int), 0)
	}
}

func (m *maker) index(n *api.Node, target int) {
	t := m.operand(&n.Kids[0])
	m.emit(api.OpGet, target, t, m.operand(&n.Kids[1]))
}

// call makes the operands one behind the other; the first one's register has the value then. Where the register
// that was taken last is the target, it is the first one itself.
func (m *maker) call(n *api.Node, target int) {
	if target >= m.slots && target == m.top-1 {
		m.top = target
	}
	first := m.top
	for i := range n.Kids {
		m.value(&n.Kids[i])
	}
	if len(n.Kids) == 0 {
		m.take()
	}
	if n.Int > 0 {
		m.emit(api.OpCall, first, int(n.Int), 0)
	} else {
		m.emit(api.OpBuilt, first, m.text(n.Name), len(n.Kids))
	}
	if target != nowhere && target != first {
		m.emit(api.OpMove, target, first, 0)
	}
}

func (m *maker) table(n *api.Node, target int) {
	m.emit(api.OpTable, target, 0, 0)
	items := int64(0)
	for i := range n.Kids {
		top := m.top
		kid := &n.Kids[i]
		k := 0
		if kid.Kind == api.NodePair {
			k = m.operand(&kid.Kids[0])
		} else {
			items++
			k = m.take()
			m.emit(api.OpInt, k, m.int(items), 0)
		}
		m.emit(api.OpSet, target, k, m.operand(&kid.Kids[len(kid.Kids)-1]))
		m.top = top
	}
}

func (m *maker) between(n *api.Node, target int) {
	left, right := &n.Kids[0], &n.Kids[1]
	switch n.Name {
	case "and":
		m.into(left, target)
		end := m.jump(api.OpUnless, target, 0)
		m.into(right, target)
		end()
	case "or":
		m.into(left, target)
		end := m.jump(api.OpIf, target, 0)
		m.into(right, target)
		end()
	default:
		a := m.operand(left)
		m.emit(m.operators[n.Name], target, a, m.operand(right))
	}
}

// alone makes an operator of one operand.
func (m *maker) alone(n *api.Node, target int) {
	op := api.OpNot
	switch n.Kind {
	case api.NodeNeg:
		op = api.OpNeg
	case api.NodeLen:
		op = api.OpLen
	}
	m.emit(op, target, m.operand(&n.Kids[0]), 0)
}
