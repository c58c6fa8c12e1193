package call

import "hartix/api"

// done answers 0, or -1 for what a layer below refuses.
func done(errno api.Errno) outcome {
	if errno != api.OK {
		return refused
	}
	return answered(0)
}

// chdir holds the new directory ahead of letting the old one go: they may be one.
func (c *caller) chdir() outcome {
	ino, errno := c.tree.Find(c.cwd, c.text(0))
	if errno != api.OK || c.tree.Stat(ino).Type != api.TypeDir || c.tree.Hold(ino) != api.OK {
		return refused
	}
	c.tree.Drop(c.cwd)
	c.cwd = ino
	return answered(0)
}

func (c *caller) mknod() outcome {
	_, errno := c.tree.Make(c.cwd, c.text(0), api.TypeDev, int16(c.number(1)), int16(c.number(2)))
	return done(errno)
}

func (c *caller) mkdir() outcome {
	_, errno := c.tree.Make(c.cwd, c.text(0), api.TypeDir, 0, 0)
	return done(errno)
}

func (c *caller) unlink() outcome { return done(c.tree.Unlink(c.cwd, c.text(0))) }

func (c *caller) link() outcome {
	old, name := c.text(0), c.text(1)
	ino, errno := c.tree.Find(c.cwd, old)
	if errno != api.OK {
		return refused
	}
	return done(c.tree.Link(ino, c.cwd, name))
}
