package machine

import (
	"math"

	"tabor/api"
	"tabor/bridge"
	"tabor/commands"
	"tabor/library"
	"tabor/values"
)

// regs are the registers of the function that is done.
func (m *machine) regs() []api.Val { return m.frame().regs }

func (m *machine) setNil(i api.Instr) { clear(m.regs()[i.A : i.B+1]) }

func (m *machine) setTrue(i api.Instr) { m.regs()[i.A] = values.Bool(true) }

func (m *machine) setFalse(i api.Instr) { m.regs()[i.A] = values.Bool(false) }

func (m *machine) setInt(i api.Instr) { m.regs()[i.A] = values.Int(m.Ints[i.B]) }

func (m *machine) setText(i api.Instr) { m.regs()[i.A] = values.Text(m.Texts[i.B]) }

func (m *machine) move(i api.Instr) {
	r := m.regs()
	r[i.A] = r[i.B]
}

func (m *machine) setKeys(i api.Instr) { m.regs()[i.A] = m.keys }

func (m *machine) setArgs(i api.Instr) { m.regs()[i.A] = m.args }

func (m *machine) makeTable(i api.Instr) {
	v, why := m.heap.Table()
	fine(why)
	m.regs()[i.A] = v
}

func (m *machine) get(i api.Instr) {
	r := m.regs()
	v, why := m.heap.Get(r[i.B], r[i.C])
	fine(why)
	r[i.A] = v
}

func (m *machine) put(i api.Instr) {
	r := m.regs()
	fine(m.heap.Set(r[i.A], r[i.B], r[i.C]))
}

// between does the operators of two, from OpAdd to OpGe.
func (m *machine) between(i api.Instr) {
	r := m.regs()
	v, why := m.heap.Op(m.names[i.Op-api.OpAdd], r[i.B], r[i.C])
	fine(why)
	r[i.A] = v
}

func (m *machine) not(i api.Instr) {
	r := m.regs()
	r[i.A] = values.Bool(!values.So(r[i.B]))
}

func (m *machine) turn(i api.Instr) {
	r := m.regs()
	v, why := values.Neg(r[i.B])
	fine(why)
	r[i.A] = v
}

func (m *machine) measure(i api.Instr) {
	r := m.regs()
	n, why := m.heap.Len(r[i.B])
	fine(why)
	r[i.A] = values.Int(n)
}

func (m *machine) jump(i api.Instr) { m.frame().next = i.A }

func (m *machine) unless(i api.Instr) {
	if f := m.frame(); !values.So(f.regs[i.A]) {
		f.next = i.B
	}
}

func (m *machine) when(i api.Instr) {
	if f := m.frame(); values.So(f.regs[i.A]) {
		f.next = i.B
	}
}

// loop tells a for's numbers.
func loop(r []api.Val) (at, end, by int64) {
	for _, v := range r[:3] {
		if v.Kind != api.ValInt {
			panic(failed{errType})
		}
	}
	return r[0].Int, r[1].Int, r[2].Int
}

// beyond tells whether a for's counter is beyond its end.
func beyond(at, end, by int64) bool { return by > 0 && at > end || by <= 0 && at < end }

func (m *machine) begin(i api.Instr) {
	f := m.frame()
	at, end, by := loop(f.regs[i.A:])
	if by == 0 {
		panic(failed{errZero})
	}
	if beyond(at, end, by) {
		f.next = i.B
		return
	}
	f.regs[i.C] = f.regs[i.A]
}

func (m *machine) again(i api.Instr) {
	f := m.frame()
	at, end, by := loop(f.regs[i.A:])
	over := by > 0 && at > math.MaxInt64-by || by < 0 && at < math.MinInt64-by
	if over || beyond(at+by, end, by) {
		return
	}
	f.regs[i.A] = values.Int(at + by)
	f.regs[i.C] = values.Int(at + by)
	f.next = i.B
}

func (m *machine) call(i api.Instr) {
	m.enter(i.B, m.regs()[i.A:i.A+m.Protos[i.B].Params], i.A)
}

func (m *machine) giveBack(i api.Instr) { m.leave(m.regs()[i.A]) }

func (m *machine) end(api.Instr) { m.leave(api.Val{}) }

// built does what the language has.
func (m *machine) built(i api.Instr) {
	r := m.regs()
	operands := r[i.A : i.A+i.C]
	switch name := m.Texts[i.B]; name {
	case "call":
		r[i.A] = m.command(operands, false)
	case "try":
		r[i.A] = m.command(operands, true)
	case "error":
		panic(failed{complaint(operands)})
	default:
		v, why, _ := library.Call(m.heap, name, operands...)
		fine(why)
		r[i.A] = v
	}
}

// isText tells whether a value may stand for a text.
func isText(v api.Val) bool { return v.Kind == api.ValText || v.Kind == api.ValInt }

// complaint is the text of a script's own error.
func complaint(operands []api.Val) string {
	if len(operands) == 0 || !isText(operands[0]) {
		return errError
	}
	return values.Told(operands[0])
}

// command does a command; an error of it is a value only where the script tries.
func (m *machine) command(operands []api.Val, try bool) api.Val {
	if len(operands) == 0 {
		panic(failed{errArgs})
	}
	var args []string
	for _, v := range operands {
		if !isText(v) {
			panic(failed{errType})
		}
		args = append(args, values.Told(v))
	}
	reply, effects := commands.Do(m.k, m.now, args...)
	m.effects = append(m.effects, effects...)
	if reply.Kind == api.ReplyError && !try {
		panic(failed{reply.Text})
	}
	v, why := bridge.Value(m.heap, reply)
	fine(why)
	return v
}
